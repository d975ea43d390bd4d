/- Read of the document (layer 14). -/
import Derived.Test.YtadmibfnjhockaaDoorL6
namespace Go.Proofs.YtadmibfnjhockaaDoor
open Go.RowKit Go.Lib
set_option linter.unusedVariables false
set_option maxRecDepth 2000 in
set_option maxHeartbeats 16000000 in
theorem ReadR14 (s : ByteArray) (w : World) (hs : s.size ≤ 4096) : Calls Tryd.prog 16 #[.string s] w fun e w' => ∃ v ts x e0, e = .returned (.tuple #[v, .int .i64 x, .int .i64 e0]) ∧ finL (lexS (bytesL s) 1 []) = (ts, x, e0) ∧ OK14 w.heap.size w' v ts ∧ Below w.heap.size w w' := by
  obtain ⟨n, hn⟩ : ∃ n, s.size = n := ⟨_, rfl⟩
  have HN := hide hn
  have hn4 : n ≤ 4096 := by omega
  have HO0 := hide (OK14.made w w.heap.size (Nat.le_refl _))
  have HB0 := hide (bel1 w (.cells #[] 40))
  go_enter Tryd.func16, Tryd.ntmps16
  go_upto_region 4 with fail
  generalize hu : w.alloc (.cells #[] 40) = u at *
  clear hu
  go_wp2
  go_loopw [5, 6, 7] (fun V z v wr => ∃ (i : Nat) (ln : Int) (out : List Tk), i ≤ n ∧ v = .int .i64 i ∧ z = .int .i64 ln ∧ 1 ≤ ln ∧ ln ≤ 1 + i ∧ out.length ≤ 800 ∧ Hid (OK14 w.heap.size wr V out) ∧ Hid (lexS ((bytesL s).drop i) ln out = lexS (bytesL s) 1 []) ∧ Hid (Below w.heap.size w wr)) (fun _ _ v _ => n - (intOf v).toNat)
  case atStart => exact ⟨0, 1, [], by omega, rfl, rfl, by omega, by omega, by simp, HO0, rfl, HB0⟩
  case round =>
    clear HO0 HB0
    obtain ⟨i, ln, out, hi, rfl, rfl, hl1, hl2, hol, HO, HRS, HB⟩ := hrel
    by_cases hlt : i < n
    · have hi0 : (0 : Int) ≤ (i : Int) := by omega
      have hi1 : (i : Int) < (n : Int) := by omega
      have HAT := hide (bytesL_at (s := s) (i := i) (by rw [HN.out]; exact hlt))
      have hix : ∀ h : i < s.size, ((s[i]'h).toNat : Int) = byS s i := fun h => byS_is h
      generalize byS s i = c at *
      rw [drop_at HAT.out] at HRS
      have HFR := hide (OK14.fresh HO.out)
      have hgx := HB.out.size
      go_upto_region 12 with fail
      have HX : Hid (BX (wr.alloc (.cells #[.int .i64 0, .string ⟨#[]⟩, .int .i64 0, .int .i64 ln] 40)) wr.heap.size #[.int .i64 0, .string ⟨#[]⟩, .int .i64 0, .int .i64 ln] 40) := BX.new wr _ rfl _ _
      have BQ := hide (bel1 wr (.cells #[.int .i64 0, .string ⟨#[]⟩, .int .i64 0, .int .i64 ln] 40))
      replace HO := hide (HO.out.below BQ.out)
      replace HB := hide (bel_next HB.out BQ.out)
      clear BQ
      generalize hgy : wr.heap.size = gX at *
      clear hgy
      generalize hwx : wr.alloc (.cells #[.int .i64 0, .string ⟨#[]⟩, .int .i64 0, .int .i64 ln] 40) = wx at *
      clear hwx
      by_cases h1 : c = 32 ∨ c = 9
      · have HNX : Hid (lexS ((bytesL s).drop (i + 1)) ln out = lexS (bytesL s) 1 []) := by unfold Hid; rw [← HRS.out, lexS_blank h1]
        rcases h1 with rfl | rfl
        · go_wp2
          go_roundw
          case rel => exact ⟨i + 1, ln, out, by omega, by go_num, rfl, hl1, by omega, hol, HO, HNX, HB⟩
          case measure => simp [intOf]; omega
        · go_wp2
          go_roundw
          case rel => exact ⟨i + 1, ln, out, by omega, by go_num, rfl, hl1, by omega, hol, HO, HNX, HB⟩
          case measure => simp [intOf]; omega
      · have h11 : ¬ c = 32 := fun e => h1 (.inl e)
        have h12 : ¬ c = 9 := fun e => h1 (.inr e)
        by_cases h2 : c = 35
        · subst h2
          have HD0 : Hid (lexS (((bytesL s).drop (i + 1)).dropWhile (fun x => decide (x ≠ 10))) ln out = lexS (bytesL s) 1 []) := by unfold Hid; rw [← HRS.out, lexS_hash]
          go_wp2
          go_loopw [7] (fun v wr => ∃ q : Nat, i + 1 ≤ q ∧ q ≤ n ∧ v = .int .i64 q ∧ Hid (((bytesL s).drop (i + 1)).dropWhile (fun x => decide (x ≠ 10)) = ((bytesL s).drop q).dropWhile (fun x => decide (x ≠ 10))) ∧ wr = wx) (fun v _ => n - (intOf v).toNat)
          case atStart => exact ⟨i + 1, by omega, by omega, by go_num, rfl, rfl⟩
          case round =>
            obtain ⟨q, hq1, hq2, rfl, HF, hww⟩ := hrel
            have hww2 := hww.symm
            subst hww2
            clear hww
            by_cases hlq : q < n
            · have hq3 : (0 : Int) ≤ (q : Int) := by omega
              have hq4 : (q : Int) < (n : Int) := by omega
              have HAQ := hide (bytesL_at (s := s) (i := q) (by rw [HN.out]; exact hlq))
              have hiq : ∀ h : q < s.size, ((s[q]'h).toNat : Int) = byS s q := fun h => byS_is h
              generalize byS s q = d at *
              by_cases hd : d = 10
              · have HNX : Hid (lexS ((bytesL s).drop q) ln out = lexS (bytesL s) 1 []) := by
                  unfold Hid
                  rw [← HD0.out, HF.out, dropW_stop (.inr ⟨d, HAQ.out, by rw [hd]; decide⟩)]
                go_wp2
                go_roundw
                case rel => exact ⟨q, ln, out, by omega, by go_num, rfl, hl1, by omega, hol, HO, HNX, HB⟩
                case measure => simp [intOf]; omega
              · have HF2 : Hid (((bytesL s).drop (i + 1)).dropWhile (fun x => decide (x ≠ 10)) = ((bytesL s).drop (q + 1)).dropWhile (fun x => decide (x ≠ 10))) := by
                  unfold Hid
                  rw [HF.out, dropW_go HAQ.out (by simpa using hd)]
                have hd2 : (d != 10) = true := by simpa using hd
                go_wp2
                go_roundw
                case rel => exact ⟨q + 1, by omega, by omega, by go_num, HF2, by trivial⟩
                case measure => simp [intOf]; omega
            · obtain rfl : q = n := by omega
              have HNX : Hid (lexS ((bytesL s).drop q) ln out = lexS (bytesL s) 1 []) := by
                unfold Hid
                rw [← HD0.out, HF.out, dropW_stop (.inl (by rw [bytesL_sz, HN.out]; exact Nat.le_refl _))]
              go_wp2
              go_roundw
              case rel => exact ⟨q, ln, out, by omega, by go_num, rfl, hl1, by omega, hol, HO, HNX, HB⟩
              case measure => simp [intOf]; omega
        · by_cases h3 : c = 58
          · subst h3
            have x0 := HX.out.cell 0 _ rfl
            have y0 := HX.out.free 0
            have x1 := HX.out.cell 1 _ rfl
            have y1 := HX.out.free 1
            have x2 := HX.out.cell 2 _ rfl
            have y2 := HX.out.free 2
            have x3 := HX.out.cell 3 _ rfl
            have y3 := HX.out.free 3
            go_upto_region 34 with fail
            clear x0 y0 x1 y1 x2 y2 x3 y3
            replace HX : Hid (BX (wx.setCell ⟨gX, 0, none⟩ (.int .i64 3)) gX #[.int .i64 3, .string ⟨#[]⟩, .int .i64 0, .int .i64 ln] 40) := HX.out.set 0 _
            replace HO := hide (OK14.put HO.out HFR.out 0 (.int .i64 3))
            replace HB := hide (HB.out.setCell (p := ⟨gX, 0, none⟩) hgx (.int .i64 3))
            generalize hwt : (wx.setCell ⟨gX, 0, none⟩ (.int .i64 3)) = wt at *
            clear hwt
            have x0 := HX.out.cell 0 _ rfl
            have y0 := HX.out.free 0
            have x1 := HX.out.cell 1 _ rfl
            have y1 := HX.out.free 1
            have x2 := HX.out.cell 2 _ rfl
            have y2 := HX.out.free 2
            have x3 := HX.out.cell 3 _ rfl
            have y3 := HX.out.free 3
            have hb := bel1 wt (.cells #[.int .i64 3, .string ⟨#[]⟩, .int .i64 0, .int .i64 ln] 40)
            have HB3 := hide (bel_next HB.out hb)
            go_wp2_with (at_builtin; refine Stop.at ?_)
            unfold Stop
            refine append_rows rfl _ _ 35 rfl Tryd.underlying35 Tryd.infoTk rfl (by decide) (by decide) encTk_len encTk_one w.heap.size _ out [(3, ⟨#[]⟩, 0, ln)] rfl (HO.out.below hb) (some ⟨wt.heap.size, 0, none⟩) 1 1 rfl (fun h => by cases h) (RS.new encTk_len wt _ rfl [(3, ⟨#[]⟩, 0, ln)] _ rfl _ _ 1 rfl (by decide)) (by have h9 := hol; simp at h9 ⊢; omega) HB3.out.size ?_
            intro v5 w5 ho5 hgr5 hbel5
            have HB5 := hide (hbel5 _ HB3.out)
            have HX5 : Hid (BX w5 gX #[.int .i64 3, .string ⟨#[]⟩, .int .i64 0, .int .i64 ln] 40) := (HX.out.below hb).grown hgr5 HFR.out
            have O5 := hide ho5
            obtain ⟨p5, c5, hv5, _, _⟩ := ho5.open encTk_len
            subst hv5
            rw [show (out ++ [((3, ⟨#[]⟩, 0, ln) : Tk)]).length = out.length + 1 by simp] at O5 ⊢
            clear ho5 hgr5 hbel5 hb HB3 HO HB HX HFR
            clear x0 y0 x1 y1 x2 y2 x3 y3
            by_cases h8 : out.length + 1 ≤ 800
            · have h81 : ¬ (800 : Int) < ((out.length + 1 : Nat) : Int) := by omega
              have HNX : Hid (lexS ((bytesL s).drop (i + 1)) (ln) (out ++ [(3, ⟨#[]⟩, 0, ln)]) = lexS (bytesL s) 1 []) := by unfold Hid; rw [← HRS.out, lexS_colon, push_ok h8]
              have hno : (out ++ [((3, ⟨#[]⟩, 0, ln) : Tk)]).length ≤ 800 := by simp; omega
              generalize hq : out.length + 1 = no at *
              clear hq
              go_wp2
              go_roundw
              case rel => exact ⟨(i + 1), ln, out ++ [(3, ⟨#[]⟩, 0, ln)], by omega, by go_num, by go_num, (by omega), (by omega), hno, O5, HNX, HB5⟩
              case measure => simp [intOf]; omega
            · have h81 : (800 : Int) < ((out.length + 1 : Nat) : Int) := by omega
              have HER : Hid (lexS (bytesL s) 1 [] = .error (ln, 7)) := by unfold Hid; rw [← HRS.out, lexS_colon, push_big (by omega)]
              generalize hq : out.length + 1 = no at *
              clear hq
              have x3 := HX5.out.cell 3 _ rfl
              go_upto_region 36 with fail
              go_region
              go_wp2
              go_ret3
              exact ⟨_, [], ln, 7, rfl, by rw [HER.out]; rfl, OwnR.nil _ _, HB5.out.drew⟩
          · by_cases h4 : c = 44
            · subst h4
              have x0 := HX.out.cell 0 _ rfl
              have y0 := HX.out.free 0
              have x1 := HX.out.cell 1 _ rfl
              have y1 := HX.out.free 1
              have x2 := HX.out.cell 2 _ rfl
              have y2 := HX.out.free 2
              have x3 := HX.out.cell 3 _ rfl
              have y3 := HX.out.free 3
              go_upto_region 34 with fail
              clear x0 y0 x1 y1 x2 y2 x3 y3
              replace HX : Hid (BX (wx.setCell ⟨gX, 0, none⟩ (.int .i64 4)) gX #[.int .i64 4, .string ⟨#[]⟩, .int .i64 0, .int .i64 ln] 40) := HX.out.set 0 _
              replace HO := hide (OK14.put HO.out HFR.out 0 (.int .i64 4))
              replace HB := hide (HB.out.setCell (p := ⟨gX, 0, none⟩) hgx (.int .i64 4))
              generalize hwt : (wx.setCell ⟨gX, 0, none⟩ (.int .i64 4)) = wt at *
              clear hwt
              have x0 := HX.out.cell 0 _ rfl
              have y0 := HX.out.free 0
              have x1 := HX.out.cell 1 _ rfl
              have y1 := HX.out.free 1
              have x2 := HX.out.cell 2 _ rfl
              have y2 := HX.out.free 2
              have x3 := HX.out.cell 3 _ rfl
              have y3 := HX.out.free 3
              have hb := bel1 wt (.cells #[.int .i64 4, .string ⟨#[]⟩, .int .i64 0, .int .i64 ln] 40)
              have HB3 := hide (bel_next HB.out hb)
              go_wp2_with (at_builtin; refine Stop.at ?_)
              unfold Stop
              refine append_rows rfl _ _ 35 rfl Tryd.underlying35 Tryd.infoTk rfl (by decide) (by decide) encTk_len encTk_one w.heap.size _ out [(4, ⟨#[]⟩, 0, ln)] rfl (HO.out.below hb) (some ⟨wt.heap.size, 0, none⟩) 1 1 rfl (fun h => by cases h) (RS.new encTk_len wt _ rfl [(4, ⟨#[]⟩, 0, ln)] _ rfl _ _ 1 rfl (by decide)) (by have h9 := hol; simp at h9 ⊢; omega) HB3.out.size ?_
              intro v5 w5 ho5 hgr5 hbel5
              have HB5 := hide (hbel5 _ HB3.out)
              have HX5 : Hid (BX w5 gX #[.int .i64 4, .string ⟨#[]⟩, .int .i64 0, .int .i64 ln] 40) := (HX.out.below hb).grown hgr5 HFR.out
              have O5 := hide ho5
              obtain ⟨p5, c5, hv5, _, _⟩ := ho5.open encTk_len
              subst hv5
              rw [show (out ++ [((4, ⟨#[]⟩, 0, ln) : Tk)]).length = out.length + 1 by simp] at O5 ⊢
              clear ho5 hgr5 hbel5 hb HB3 HO HB HX HFR
              clear x0 y0 x1 y1 x2 y2 x3 y3
              by_cases h8 : out.length + 1 ≤ 800
              · have h81 : ¬ (800 : Int) < ((out.length + 1 : Nat) : Int) := by omega
                have HNX : Hid (lexS ((bytesL s).drop (i + 1)) (ln) (out ++ [(4, ⟨#[]⟩, 0, ln)]) = lexS (bytesL s) 1 []) := by unfold Hid; rw [← HRS.out, lexS_comma, push_ok h8]
                have hno : (out ++ [((4, ⟨#[]⟩, 0, ln) : Tk)]).length ≤ 800 := by simp; omega
                generalize hq : out.length + 1 = no at *
                clear hq
                go_wp2
                go_roundw
                case rel => exact ⟨(i + 1), ln, out ++ [(4, ⟨#[]⟩, 0, ln)], by omega, by go_num, by go_num, (by omega), (by omega), hno, O5, HNX, HB5⟩
                case measure => simp [intOf]; omega
              · have h81 : (800 : Int) < ((out.length + 1 : Nat) : Int) := by omega
                have HER : Hid (lexS (bytesL s) 1 [] = .error (ln, 7)) := by unfold Hid; rw [← HRS.out, lexS_comma, push_big (by omega)]
                generalize hq : out.length + 1 = no at *
                clear hq
                have x3 := HX5.out.cell 3 _ rfl
                go_upto_region 36 with fail
                go_region
                go_wp2
                go_ret3
                exact ⟨_, [], ln, 7, rfl, by rw [HER.out]; rfl, OwnR.nil _ _, HB5.out.drew⟩
            · by_cases h5 : c = 10
              · subst h5
                have x0 := HX.out.cell 0 _ rfl
                have y0 := HX.out.free 0
                have x1 := HX.out.cell 1 _ rfl
                have y1 := HX.out.free 1
                have x2 := HX.out.cell 2 _ rfl
                have y2 := HX.out.free 2
                have x3 := HX.out.cell 3 _ rfl
                have y3 := HX.out.free 3
                go_upto_region 34 with fail
                clear x0 y0 x1 y1 x2 y2 x3 y3
                replace HX : Hid (BX (wx.setCell ⟨gX, 0, none⟩ (.int .i64 5)) gX #[.int .i64 5, .string ⟨#[]⟩, .int .i64 0, .int .i64 ln] 40) := HX.out.set 0 _
                replace HO := hide (OK14.put HO.out HFR.out 0 (.int .i64 5))
                replace HB := hide (HB.out.setCell (p := ⟨gX, 0, none⟩) hgx (.int .i64 5))
                generalize hwt : (wx.setCell ⟨gX, 0, none⟩ (.int .i64 5)) = wt at *
                clear hwt
                have x0 := HX.out.cell 0 _ rfl
                have y0 := HX.out.free 0
                have x1 := HX.out.cell 1 _ rfl
                have y1 := HX.out.free 1
                have x2 := HX.out.cell 2 _ rfl
                have y2 := HX.out.free 2
                have x3 := HX.out.cell 3 _ rfl
                have y3 := HX.out.free 3
                have hb := bel1 wt (.cells #[.int .i64 5, .string ⟨#[]⟩, .int .i64 0, .int .i64 ln] 40)
                have HB3 := hide (bel_next HB.out hb)
                go_wp2_with (at_builtin; refine Stop.at ?_)
                unfold Stop
                refine append_rows rfl _ _ 35 rfl Tryd.underlying35 Tryd.infoTk rfl (by decide) (by decide) encTk_len encTk_one w.heap.size _ out [(5, ⟨#[]⟩, 0, ln)] rfl (HO.out.below hb) (some ⟨wt.heap.size, 0, none⟩) 1 1 rfl (fun h => by cases h) (RS.new encTk_len wt _ rfl [(5, ⟨#[]⟩, 0, ln)] _ rfl _ _ 1 rfl (by decide)) (by have h9 := hol; simp at h9 ⊢; omega) HB3.out.size ?_
                intro v5 w5 ho5 hgr5 hbel5
                have HB5 := hide (hbel5 _ HB3.out)
                have HX5 : Hid (BX w5 gX #[.int .i64 5, .string ⟨#[]⟩, .int .i64 0, .int .i64 ln] 40) := (HX.out.below hb).grown hgr5 HFR.out
                have O5 := hide ho5
                obtain ⟨p5, c5, hv5, _, _⟩ := ho5.open encTk_len
                subst hv5
                rw [show (out ++ [((5, ⟨#[]⟩, 0, ln) : Tk)]).length = out.length + 1 by simp] at O5 ⊢
                clear ho5 hgr5 hbel5 hb HB3 HO HB HX HFR
                clear x0 y0 x1 y1 x2 y2 x3 y3
                by_cases h8 : out.length + 1 ≤ 800
                · have h81 : ¬ (800 : Int) < ((out.length + 1 : Nat) : Int) := by omega
                  have HNX : Hid (lexS ((bytesL s).drop (i + 1)) (ln + 1) (out ++ [(5, ⟨#[]⟩, 0, ln)]) = lexS (bytesL s) 1 []) := by unfold Hid; rw [← HRS.out, lexS_line, push_ok h8]
                  have hno : (out ++ [((5, ⟨#[]⟩, 0, ln) : Tk)]).length ≤ 800 := by simp; omega
                  generalize hq : out.length + 1 = no at *
                  clear hq
                  go_wp2
                  go_roundw
                  case rel => exact ⟨(i + 1), ln + 1, out ++ [(5, ⟨#[]⟩, 0, ln)], by omega, by go_num, by go_num, (by omega), (by omega), hno, O5, HNX, HB5⟩
                  case measure => simp [intOf]; omega
                · have h81 : (800 : Int) < ((out.length + 1 : Nat) : Int) := by omega
                  have HER : Hid (lexS (bytesL s) 1 [] = .error (ln, 7)) := by unfold Hid; rw [← HRS.out, lexS_line, push_big (by omega)]
                  generalize hq : out.length + 1 = no at *
                  clear hq
                  have x3 := HX5.out.cell 3 _ rfl
                  go_upto_region 36 with fail
                  go_region
                  go_wp2
                  go_ret3
                  exact ⟨_, [], ln, 7, rfl, by rw [HER.out]; rfl, OwnR.nil _ _, HB5.out.drew⟩
              · rcases hw : isWd c with _ | _
                · have HER : Hid (lexS (bytesL s) 1 [] = .error (ln, 2)) := by unfold Hid; rw [← HRS.out]; exact lexS_bad h1 h2 h3 h4 h5 hw _ _ _
                  have hl := (show isLt c = false by unfold isWd at hw; simp only [Bool.or_eq_false_iff] at hw; exact hw.1.1)
                  have hd := (show isDg c = false by unfold isWd at hw; simp only [Bool.or_eq_false_iff] at hw; exact hw.1.2)
                  have h45 : ¬ c = 45 := by unfold isWd at hw; simp only [Bool.or_eq_false_iff, decide_eq_false_iff_not] at hw; exact hw.2
                  have HL := hide hl
                  have HD := hide hd
                  have x3 := HX.out.cell 3 _ rfl
                  have g1 : (c == 32) = false := by simpa using h11
                  have g2 : (c == 9) = false := by simpa using h12
                  have g3 : (c == 35) = false := by simpa using h2
                  have g4 : (c == 58) = false := by simpa using h3
                  have g5 : (c == 44) = false := by simpa using h4
                  have g6 : (c == 10) = false := by simpa using h5
                  have g7 : (c == 45) = false := by simpa using h45
                  clear hl hd hw h1 h11 h12 h2 h3 h4 h5 h45
                  go_upto_region 11 with (first | (go_at_call 25; refine (letter14 c _).mono ?_; rintro e wl ⟨rfl, hw9⟩; have hw8 := hw9.symm; subst hw8; clear hw9; rw [HL.out]) | (go_at_call 26; refine (digit14 c _).mono ?_; rintro e wl ⟨rfl, hw9⟩; have hw8 := hw9.symm; subst hw8; clear hw9; rw [HD.out]))
                  go_region
                  go_wp2
                  go_ret3
                  exact ⟨_, [], ln, 2, rfl, by rw [HER.out]; rfl, OwnR.nil _ _, HB.out.drew⟩
                · have hwd := hw
                  clear hw
                  rcases hl : isLt c with _ | _
                  · rcases hd : isDg c with _ | _
                    · have h45 : c = 45 := by unfold isWd at hwd; rw [hl, hd] at hwd; simpa using hwd
                      have HL := hide hl
                      have HD := hide hd
                      clear hl hd
                      have g1 : (c == 32) = false := by simpa using h11
                      have g2 : (c == 9) = false := by simpa using h12
                      have g3 : (c == 35) = false := by simpa using h2
                      have g4 : (c == 58) = false := by simpa using h3
                      have g5 : (c == 44) = false := by simpa using h4
                      have g6 : (c == 10) = false := by simpa using h5
                      have g7 : (c == 45) = true := by simpa using h45
                      clear h45
                      clear h1 h11 h12 h2 h3 h4 h5
                      go_wp2_with (first | (go_at_call 25; refine (letter14 c _).mono ?_; rintro e wl ⟨rfl, hw9⟩; have hw8 := hw9.symm; subst hw8; clear hw9; rw [HL.out]) | (go_at_call 26; refine (digit14 c _).mono ?_; rintro e wl ⟨rfl, hw9⟩; have hw8 := hw9.symm; subst hw8; clear hw9; rw [HD.out]))
                      go_loopw [7] (fun v wr => ∃ q : Nat, i + 1 ≤ q ∧ q ≤ n ∧ v = .int .i64 q ∧ Hid (∀ (k : Nat) x, i ≤ k → k < q → (bytesL s)[k]? = some x → isWd x = true) ∧ wr = wx) (fun v _ => n - (intOf v).toNat)
                      case atStart => exact ⟨i + 1, by omega, by omega, by go_num, fun k x hk1 hk2 hx => (by obtain rfl : k = i := by omega
                                                                                                             rw [HAT.out] at hx; cases hx; exact hwd), rfl⟩
                      case round =>
                        obtain ⟨q, hq1, hq2, rfl, HF, hww⟩ := hrel
                        have hww2 := hww.symm
                        subst hww2
                        clear hww
                        by_cases hlq : q < n
                        · have hq3 : (0 : Int) ≤ (q : Int) := by omega
                          have hq4 : (q : Int) < (n : Int) := by omega
                          have HAQ := hide (bytesL_at (s := s) (i := q) (by rw [HN.out]; exact hlq))
                          have hiq : ∀ h : q < s.size, ((s[q]'h).toNat : Int) = byS s q := fun h => byS_is h
                          generalize byS s q = d at *
                          rcases hl : isLt d with _ | _
                          · have HL2 := hide hl
                            rcases hd : isDg d with _ | _
                            · have HD2 := hide hd
                              by_cases h45 : d = 45
                              · have hwq : isWd d = true := by rw [h45]; decide
                                have g45 : (d == 45) = true := by simpa using h45
                                clear h45
                                have HF2 : Hid (∀ (k : Nat) x, i ≤ k → k < q + 1 → (bytesL s)[k]? = some x → isWd x = true) := fun k x hk1 hk2 hx => by
                                  by_cases e : k = q
                                  · subst e
                                    rw [HAQ.out] at hx
                                    cases hx
                                    exact hwq
                                  · exact HF.out k x hk1 (by omega) hx
                                clear hl hd
                                go_wp2_with (first | (go_at_call 25; refine (letter14 d _).mono ?_; rintro e wl ⟨rfl, hw9⟩; have hw8 := hw9.symm; subst hw8; clear hw9; rw [HL2.out]) | (go_at_call 26; refine (digit14 d _).mono ?_; rintro e wl ⟨rfl, hw9⟩; have hw8 := hw9.symm; subst hw8; clear hw9; rw [HD2.out]))
                                go_roundw
                                case rel => exact ⟨q + 1, by omega, by omega, by go_num, HF2, by trivial⟩
                                case measure => simp [intOf]; omega
                              · have hwq : isWd d = false := by unfold isWd; rw [hl, hd, decide_eq_false h45]; rfl
                                have g45 : (d == 45) = false := by simpa using h45
                                clear h45
                                clear hl hd
                                go_upto_region 26 with (first | (go_at_call 25; refine (letter14 d _).mono ?_; rintro e wl ⟨rfl, hw9⟩; have hw8 := hw9.symm; subst hw8; clear hw9; rw [HL2.out]) | (go_at_call 26; refine (digit14 d _).mono ?_; rintro e wl ⟨rfl, hw9⟩; have hw8 := hw9.symm; subst hw8; clear hw9; rw [HD2.out]))
                                have HRN := hide (takeW_run (p := isWd) (l := bytesL s) (a := i) (i := q) (by omega) (by rw [bytesL_sz, HN.out]; exact hq2) HF.out (.inr ⟨d, HAQ.out, hwq⟩))
                                have hws : 0 < 1 := by omega
                                have hsz : (s.extract i q).size ≤ 10000 := by rw [ByteArray.size_extract]; have := HN.out; omega
                                have HLX : Hid (bytesL (s.extract i q) = c :: ((bytesL s).drop (i + 1)).takeWhile isWd) := by
                                  unfold Hid
                                  rw [bytesL_cut s i q (by rw [HN.out]; exact hq2), ← HRN.out.1, drop_at HAT.out, List.takeWhile_cons, if_pos hwd]
                                have HDR : Hid (((bytesL s).drop (i + 1)).dropWhile isWd = (bytesL s).drop q) := by
                                  have z := HRN.out.2
                                  rw [drop_at HAT.out, List.dropWhile_cons, if_pos hwd] at z
                                  exact z
                                have HSB : Hid (strOfNums (bytesL (s.extract i q)) = s.extract i q) := str_by14 _
                                have HNM0 := hide (fun W => Number14 (s.extract i q) W hsz)
                                have HWM0 := hide (fun W => Word14 (s.extract i q) W hsz)
                                have hiq1 : (i : Int) ≤ (q : Int) := by omega
                                have hiq2 : (q : Int) ≤ (n : Int) := by omega
                                have hiq3 : i ≤ q := by omega
                                have hiq4 : q ≤ n := by omega
                                obtain ⟨sx, hsx⟩ : ∃ x, s.extract i q = x := ⟨_, rfl⟩
                                rw [hsx] at HLX HSB HNM0 HWM0
                                clear hsz HRN HF
                                rcases hwb : wordB (bytesL sx) with _ | _
                                · rcases hnb : numB (bytesL sx) with _ | _
                                  · have HER : Hid (lexS (bytesL s) 1 [] = .error (ln, 2)) := by unfold Hid; rw [← HRS.out]; exact lexS_none hwd _ _ _ (by rw [← HLX.out]; unfold tokW; rw [hwb, hnb]; rfl)
                                    rw [hnb] at HNM0
                                    rw [hwb] at HWM0
                                    have HNM := HNM0
                                    have HWM := HWM0
                                    generalize valN (bytesL sx) = z at *
                                    clear hwb hnb HNM0 HWM0
                                    go_upto_region 33 with (first | (go_at_call 27; refine (HNM.out _).mono ?_; rintro e wn ⟨rfl, hb⟩; replace HX := hide (HX.out.below hb); replace HO := hide (HO.out.below hb); replace HB := hide (bel_next HB.out hb); clear hb) | (go_at_call 21; refine (HWM.out _).mono ?_; rintro e wo ⟨rfl, hw9⟩; have hw8 := hw9.symm; subst hw8; clear hw9))
                                    have x3 := HX.out.cell 3 _ rfl
                                    go_region
                                    go_wp2
                                    go_ret3
                                    exact ⟨_, [], ln, 2, rfl, by rw [HER.out]; rfl, OwnR.nil _ _, HB.out.drew⟩
                                  · have HTK : Hid (tokW (c :: ((bytesL s).drop (i + 1)).takeWhile isWd) ln = some (2, ⟨#[]⟩, valN (bytesL sx), ln)) := by unfold Hid; rw [← HLX.out]; unfold tokW; rw [hwb, hnb]; rfl
                                    rw [hnb] at HNM0
                                    rw [hwb] at HWM0
                                    have HNM := HNM0
                                    have HWM := HWM0
                                    generalize valN (bytesL sx) = z at *
                                    clear hwb hnb HNM0 HWM0
                                    go_upto_region 31 with (first | (go_at_call 27; refine (HNM.out _).mono ?_; rintro e wn ⟨rfl, hb⟩; replace HX := hide (HX.out.below hb); replace HO := hide (HO.out.below hb); replace HB := hide (bel_next HB.out hb); clear hb) | (go_at_call 21; refine (HWM.out _).mono ?_; rintro e wo ⟨rfl, hw9⟩; have hw8 := hw9.symm; subst hw8; clear hw9))
                                    generalize hwx2 : wn = wx at *
                                    clear hwx2
                                    have x0 := HX.out.cell 0 _ rfl
                                    have y0 := HX.out.free 0
                                    have x1 := HX.out.cell 1 _ rfl
                                    have y1 := HX.out.free 1
                                    have x2 := HX.out.cell 2 _ rfl
                                    have y2 := HX.out.free 2
                                    have x3 := HX.out.cell 3 _ rfl
                                    have y3 := HX.out.free 3
                                    go_upto_region 34 with fail
                                    clear x0 y0 x1 y1 x2 y2 x3 y3
                                    replace HX : Hid (BX (wx.setCell ⟨gX, 0, none⟩ (.int .i64 2)) gX #[.int .i64 2, .string ⟨#[]⟩, .int .i64 0, .int .i64 ln] 40) := HX.out.set 0 _
                                    replace HO := hide (OK14.put HO.out HFR.out 0 (.int .i64 2))
                                    replace HB := hide (HB.out.setCell (p := ⟨gX, 0, none⟩) hgx (.int .i64 2))
                                    replace HX : Hid (BX ((wx.setCell ⟨gX, 0, none⟩ (.int .i64 2)).setCell ⟨gX, 2, none⟩ (.int .i64 z)) gX #[.int .i64 2, .string ⟨#[]⟩, .int .i64 z, .int .i64 ln] 40) := HX.out.set 2 _
                                    replace HO := hide (OK14.put HO.out HFR.out 2 (.int .i64 z))
                                    replace HB := hide (HB.out.setCell (p := ⟨gX, 2, none⟩) hgx (.int .i64 z))
                                    generalize hwt : ((wx.setCell ⟨gX, 0, none⟩ (.int .i64 2)).setCell ⟨gX, 2, none⟩ (.int .i64 z)) = wt at *
                                    clear hwt
                                    have x0 := HX.out.cell 0 _ rfl
                                    have y0 := HX.out.free 0
                                    have x1 := HX.out.cell 1 _ rfl
                                    have y1 := HX.out.free 1
                                    have x2 := HX.out.cell 2 _ rfl
                                    have y2 := HX.out.free 2
                                    have x3 := HX.out.cell 3 _ rfl
                                    have y3 := HX.out.free 3
                                    have hb := bel1 wt (.cells #[.int .i64 2, .string ⟨#[]⟩, .int .i64 z, .int .i64 ln] 40)
                                    have HB3 := hide (bel_next HB.out hb)
                                    go_wp2_with (at_builtin; refine Stop.at ?_)
                                    unfold Stop
                                    refine append_rows rfl _ _ 35 rfl Tryd.underlying35 Tryd.infoTk rfl (by decide) (by decide) encTk_len encTk_one w.heap.size _ out [(2, ⟨#[]⟩, z, ln)] rfl (HO.out.below hb) (some ⟨wt.heap.size, 0, none⟩) 1 1 rfl (fun h => by cases h) (RS.new encTk_len wt _ rfl [(2, ⟨#[]⟩, z, ln)] _ rfl _ _ 1 rfl (by decide)) (by have h9 := hol; simp at h9 ⊢; omega) HB3.out.size ?_
                                    intro v5 w5 ho5 hgr5 hbel5
                                    have HB5 := hide (hbel5 _ HB3.out)
                                    have HX5 : Hid (BX w5 gX #[.int .i64 2, .string ⟨#[]⟩, .int .i64 z, .int .i64 ln] 40) := (HX.out.below hb).grown hgr5 HFR.out
                                    have O5 := hide ho5
                                    obtain ⟨p5, c5, hv5, _, _⟩ := ho5.open encTk_len
                                    subst hv5
                                    rw [show (out ++ [((2, ⟨#[]⟩, z, ln) : Tk)]).length = out.length + 1 by simp] at O5 ⊢
                                    clear ho5 hgr5 hbel5 hb HB3 HO HB HX HFR
                                    clear x0 y0 x1 y1 x2 y2 x3 y3
                                    by_cases h8 : out.length + 1 ≤ 800
                                    · have h81 : ¬ (800 : Int) < ((out.length + 1 : Nat) : Int) := by omega
                                      have HNX : Hid (lexS ((bytesL s).drop q) (ln) (out ++ [(2, ⟨#[]⟩, z, ln)]) = lexS (bytesL s) 1 []) := by unfold Hid; rw [← HRS.out, lexS_word hwd _ _ _ HTK.out, HDR.out, push_ok h8]
                                      have hno : (out ++ [((2, ⟨#[]⟩, z, ln) : Tk)]).length ≤ 800 := by simp; omega
                                      generalize hq : out.length + 1 = no at *
                                      clear hq
                                      go_wp2
                                      go_roundw
                                      case rel => exact ⟨q, ln, out ++ [(2, ⟨#[]⟩, z, ln)], by omega, by go_num, by go_num, (by omega), (by omega), hno, O5, HNX, HB5⟩
                                      case measure => simp [intOf]; omega
                                    · have h81 : (800 : Int) < ((out.length + 1 : Nat) : Int) := by omega
                                      have HER : Hid (lexS (bytesL s) 1 [] = .error (ln, 7)) := by unfold Hid; rw [← HRS.out, lexS_word hwd _ _ _ HTK.out, HDR.out, push_big (by omega)]
                                      generalize hq : out.length + 1 = no at *
                                      clear hq
                                      have x3 := HX5.out.cell 3 _ rfl
                                      go_upto_region 36 with fail
                                      go_region
                                      go_wp2
                                      go_ret3
                                      exact ⟨_, [], ln, 7, rfl, by rw [HER.out]; rfl, OwnR.nil _ _, HB5.out.drew⟩
                                · have HTK : Hid (tokW (c :: ((bytesL s).drop (i + 1)).takeWhile isWd) ln = some (1, sx, 0, ln)) := by unfold Hid; rw [← HLX.out]; unfold tokW; rw [hwb, HSB.out]; rfl
                                  rw [hwb] at HWM0
                                  have HNM := HNM0
                                  have HWM := HWM0
                                  generalize valN (bytesL sx) = z at *
                                  generalize numB (bytesL sx) = nb at *
                                  clear hwb HNM0 HWM0
                                  go_upto_region 28 with (first | (go_at_call 27; refine (HNM.out _).mono ?_; rintro e wn ⟨rfl, hb⟩; replace HX := hide (HX.out.below hb); replace HO := hide (HO.out.below hb); replace HB := hide (bel_next HB.out hb); clear hb) | (go_at_call 21; refine (HWM.out _).mono ?_; rintro e wo ⟨rfl, hw9⟩; have hw8 := hw9.symm; subst hw8; clear hw9))
                                  generalize hwx2 : wn = wx at *
                                  clear hwx2
                                  have x0 := HX.out.cell 0 _ rfl
                                  have y0 := HX.out.free 0
                                  have x1 := HX.out.cell 1 _ rfl
                                  have y1 := HX.out.free 1
                                  have x2 := HX.out.cell 2 _ rfl
                                  have y2 := HX.out.free 2
                                  have x3 := HX.out.cell 3 _ rfl
                                  have y3 := HX.out.free 3
                                  go_upto_region 34 with fail
                                  clear x0 y0 x1 y1 x2 y2 x3 y3
                                  replace HX : Hid (BX (wx.setCell ⟨gX, 0, none⟩ (.int .i64 1)) gX #[.int .i64 1, .string ⟨#[]⟩, .int .i64 0, .int .i64 ln] 40) := HX.out.set 0 _
                                  replace HO := hide (OK14.put HO.out HFR.out 0 (.int .i64 1))
                                  replace HB := hide (HB.out.setCell (p := ⟨gX, 0, none⟩) hgx (.int .i64 1))
                                  replace HX : Hid (BX ((wx.setCell ⟨gX, 0, none⟩ (.int .i64 1)).setCell ⟨gX, 1, none⟩ (.string sx)) gX #[.int .i64 1, .string sx, .int .i64 0, .int .i64 ln] 40) := HX.out.set 1 _
                                  replace HO := hide (OK14.put HO.out HFR.out 1 (.string sx))
                                  replace HB := hide (HB.out.setCell (p := ⟨gX, 1, none⟩) hgx (.string sx))
                                  generalize hwt : ((wx.setCell ⟨gX, 0, none⟩ (.int .i64 1)).setCell ⟨gX, 1, none⟩ (.string sx)) = wt at *
                                  clear hwt
                                  have x0 := HX.out.cell 0 _ rfl
                                  have y0 := HX.out.free 0
                                  have x1 := HX.out.cell 1 _ rfl
                                  have y1 := HX.out.free 1
                                  have x2 := HX.out.cell 2 _ rfl
                                  have y2 := HX.out.free 2
                                  have x3 := HX.out.cell 3 _ rfl
                                  have y3 := HX.out.free 3
                                  have hb := bel1 wt (.cells #[.int .i64 1, .string sx, .int .i64 0, .int .i64 ln] 40)
                                  have HB3 := hide (bel_next HB.out hb)
                                  go_wp2_with (at_builtin; refine Stop.at ?_)
                                  unfold Stop
                                  refine append_rows rfl _ _ 35 rfl Tryd.underlying35 Tryd.infoTk rfl (by decide) (by decide) encTk_len encTk_one w.heap.size _ out [(1, sx, 0, ln)] rfl (HO.out.below hb) (some ⟨wt.heap.size, 0, none⟩) 1 1 rfl (fun h => by cases h) (RS.new encTk_len wt _ rfl [(1, sx, 0, ln)] _ rfl _ _ 1 rfl (by decide)) (by have h9 := hol; simp at h9 ⊢; omega) HB3.out.size ?_
                                  intro v5 w5 ho5 hgr5 hbel5
                                  have HB5 := hide (hbel5 _ HB3.out)
                                  have HX5 : Hid (BX w5 gX #[.int .i64 1, .string sx, .int .i64 0, .int .i64 ln] 40) := (HX.out.below hb).grown hgr5 HFR.out
                                  have O5 := hide ho5
                                  obtain ⟨p5, c5, hv5, _, _⟩ := ho5.open encTk_len
                                  subst hv5
                                  rw [show (out ++ [((1, sx, 0, ln) : Tk)]).length = out.length + 1 by simp] at O5 ⊢
                                  clear ho5 hgr5 hbel5 hb HB3 HO HB HX HFR
                                  clear x0 y0 x1 y1 x2 y2 x3 y3
                                  by_cases h8 : out.length + 1 ≤ 800
                                  · have h81 : ¬ (800 : Int) < ((out.length + 1 : Nat) : Int) := by omega
                                    have HNX : Hid (lexS ((bytesL s).drop q) (ln) (out ++ [(1, sx, 0, ln)]) = lexS (bytesL s) 1 []) := by unfold Hid; rw [← HRS.out, lexS_word hwd _ _ _ HTK.out, HDR.out, push_ok h8]
                                    have hno : (out ++ [((1, sx, 0, ln) : Tk)]).length ≤ 800 := by simp; omega
                                    generalize hq : out.length + 1 = no at *
                                    clear hq
                                    go_wp2
                                    go_roundw
                                    case rel => exact ⟨q, ln, out ++ [(1, sx, 0, ln)], by omega, by go_num, by go_num, (by omega), (by omega), hno, O5, HNX, HB5⟩
                                    case measure => simp [intOf]; omega
                                  · have h81 : (800 : Int) < ((out.length + 1 : Nat) : Int) := by omega
                                    have HER : Hid (lexS (bytesL s) 1 [] = .error (ln, 7)) := by unfold Hid; rw [← HRS.out, lexS_word hwd _ _ _ HTK.out, HDR.out, push_big (by omega)]
                                    generalize hq : out.length + 1 = no at *
                                    clear hq
                                    have x3 := HX5.out.cell 3 _ rfl
                                    go_upto_region 36 with fail
                                    go_region
                                    go_wp2
                                    go_ret3
                                    exact ⟨_, [], ln, 7, rfl, by rw [HER.out]; rfl, OwnR.nil _ _, HB5.out.drew⟩
                            · have HD2 := hide hd
                              have hwq : isWd d = true := by unfold isWd; rw [hd]; simp
                              have HF2 : Hid (∀ (k : Nat) x, i ≤ k → k < q + 1 → (bytesL s)[k]? = some x → isWd x = true) := fun k x hk1 hk2 hx => by
                                by_cases e : k = q
                                · subst e
                                  rw [HAQ.out] at hx
                                  cases hx
                                  exact hwq
                                · exact HF.out k x hk1 (by omega) hx
                              clear hl hd
                              go_wp2_with (first | (go_at_call 25; refine (letter14 d _).mono ?_; rintro e wl ⟨rfl, hw9⟩; have hw8 := hw9.symm; subst hw8; clear hw9; rw [HL2.out]) | (go_at_call 26; refine (digit14 d _).mono ?_; rintro e wl ⟨rfl, hw9⟩; have hw8 := hw9.symm; subst hw8; clear hw9; rw [HD2.out]))
                              go_roundw
                              case rel => exact ⟨q + 1, by omega, by omega, by go_num, HF2, by trivial⟩
                              case measure => simp [intOf]; omega
                          · have HL2 := hide hl
                            have hwq : isWd d = true := by unfold isWd; rw [hl]; rfl
                            have HF2 : Hid (∀ (k : Nat) x, i ≤ k → k < q + 1 → (bytesL s)[k]? = some x → isWd x = true) := fun k x hk1 hk2 hx => by
                              by_cases e : k = q
                              · subst e
                                rw [HAQ.out] at hx
                                cases hx
                                exact hwq
                              · exact HF.out k x hk1 (by omega) hx
                            clear hl
                            go_wp2_with (go_at_call 25; refine (letter14 d _).mono ?_; rintro e wl ⟨rfl, hw9⟩; have hw8 := hw9.symm; subst hw8; clear hw9; rw [HL2.out])
                            go_roundw
                            case rel => exact ⟨q + 1, by omega, by omega, by go_num, HF2, by trivial⟩
                            case measure => simp [intOf]; omega
                        · have hq4 : ¬ (q : Int) < (n : Int) := by omega
                          go_upto_region 26 with fail
                          have HRN := hide (takeW_run (p := isWd) (l := bytesL s) (a := i) (i := q) (by omega) (by rw [bytesL_sz, HN.out]; exact hq2) HF.out (.inl (by rw [bytesL_sz, HN.out]; omega)))
                          have hws : 0 < 1 := by omega
                          have hsz : (s.extract i q).size ≤ 10000 := by rw [ByteArray.size_extract]; have := HN.out; omega
                          have HLX : Hid (bytesL (s.extract i q) = c :: ((bytesL s).drop (i + 1)).takeWhile isWd) := by
                            unfold Hid
                            rw [bytesL_cut s i q (by rw [HN.out]; exact hq2), ← HRN.out.1, drop_at HAT.out, List.takeWhile_cons, if_pos hwd]
                          have HDR : Hid (((bytesL s).drop (i + 1)).dropWhile isWd = (bytesL s).drop q) := by
                            have z := HRN.out.2
                            rw [drop_at HAT.out, List.dropWhile_cons, if_pos hwd] at z
                            exact z
                          have HSB : Hid (strOfNums (bytesL (s.extract i q)) = s.extract i q) := str_by14 _
                          have HNM0 := hide (fun W => Number14 (s.extract i q) W hsz)
                          have HWM0 := hide (fun W => Word14 (s.extract i q) W hsz)
                          have hiq1 : (i : Int) ≤ (q : Int) := by omega
                          have hiq2 : (q : Int) ≤ (n : Int) := by omega
                          have hiq3 : i ≤ q := by omega
                          have hiq4 : q ≤ n := by omega
                          obtain ⟨sx, hsx⟩ : ∃ x, s.extract i q = x := ⟨_, rfl⟩
                          rw [hsx] at HLX HSB HNM0 HWM0
                          clear hsz HRN HF
                          rcases hwb : wordB (bytesL sx) with _ | _
                          · rcases hnb : numB (bytesL sx) with _ | _
                            · have HER : Hid (lexS (bytesL s) 1 [] = .error (ln, 2)) := by unfold Hid; rw [← HRS.out]; exact lexS_none hwd _ _ _ (by rw [← HLX.out]; unfold tokW; rw [hwb, hnb]; rfl)
                              rw [hnb] at HNM0
                              rw [hwb] at HWM0
                              have HNM := HNM0
                              have HWM := HWM0
                              generalize valN (bytesL sx) = z at *
                              clear hwb hnb HNM0 HWM0
                              go_upto_region 33 with (first | (go_at_call 27; refine (HNM.out _).mono ?_; rintro e wn ⟨rfl, hb⟩; replace HX := hide (HX.out.below hb); replace HO := hide (HO.out.below hb); replace HB := hide (bel_next HB.out hb); clear hb) | (go_at_call 21; refine (HWM.out _).mono ?_; rintro e wo ⟨rfl, hw9⟩; have hw8 := hw9.symm; subst hw8; clear hw9))
                              have x3 := HX.out.cell 3 _ rfl
                              go_region
                              go_wp2
                              go_ret3
                              exact ⟨_, [], ln, 2, rfl, by rw [HER.out]; rfl, OwnR.nil _ _, HB.out.drew⟩
                            · have HTK : Hid (tokW (c :: ((bytesL s).drop (i + 1)).takeWhile isWd) ln = some (2, ⟨#[]⟩, valN (bytesL sx), ln)) := by unfold Hid; rw [← HLX.out]; unfold tokW; rw [hwb, hnb]; rfl
                              rw [hnb] at HNM0
                              rw [hwb] at HWM0
                              have HNM := HNM0
                              have HWM := HWM0
                              generalize valN (bytesL sx) = z at *
                              clear hwb hnb HNM0 HWM0
                              go_upto_region 31 with (first | (go_at_call 27; refine (HNM.out _).mono ?_; rintro e wn ⟨rfl, hb⟩; replace HX := hide (HX.out.below hb); replace HO := hide (HO.out.below hb); replace HB := hide (bel_next HB.out hb); clear hb) | (go_at_call 21; refine (HWM.out _).mono ?_; rintro e wo ⟨rfl, hw9⟩; have hw8 := hw9.symm; subst hw8; clear hw9))
                              generalize hwx2 : wn = wx at *
                              clear hwx2
                              have x0 := HX.out.cell 0 _ rfl
                              have y0 := HX.out.free 0
                              have x1 := HX.out.cell 1 _ rfl
                              have y1 := HX.out.free 1
                              have x2 := HX.out.cell 2 _ rfl
                              have y2 := HX.out.free 2
                              have x3 := HX.out.cell 3 _ rfl
                              have y3 := HX.out.free 3
                              go_upto_region 34 with fail
                              clear x0 y0 x1 y1 x2 y2 x3 y3
                              replace HX : Hid (BX (wx.setCell ⟨gX, 0, none⟩ (.int .i64 2)) gX #[.int .i64 2, .string ⟨#[]⟩, .int .i64 0, .int .i64 ln] 40) := HX.out.set 0 _
                              replace HO := hide (OK14.put HO.out HFR.out 0 (.int .i64 2))
                              replace HB := hide (HB.out.setCell (p := ⟨gX, 0, none⟩) hgx (.int .i64 2))
                              replace HX : Hid (BX ((wx.setCell ⟨gX, 0, none⟩ (.int .i64 2)).setCell ⟨gX, 2, none⟩ (.int .i64 z)) gX #[.int .i64 2, .string ⟨#[]⟩, .int .i64 z, .int .i64 ln] 40) := HX.out.set 2 _
                              replace HO := hide (OK14.put HO.out HFR.out 2 (.int .i64 z))
                              replace HB := hide (HB.out.setCell (p := ⟨gX, 2, none⟩) hgx (.int .i64 z))
                              generalize hwt : ((wx.setCell ⟨gX, 0, none⟩ (.int .i64 2)).setCell ⟨gX, 2, none⟩ (.int .i64 z)) = wt at *
                              clear hwt
                              have x0 := HX.out.cell 0 _ rfl
                              have y0 := HX.out.free 0
                              have x1 := HX.out.cell 1 _ rfl
                              have y1 := HX.out.free 1
                              have x2 := HX.out.cell 2 _ rfl
                              have y2 := HX.out.free 2
                              have x3 := HX.out.cell 3 _ rfl
                              have y3 := HX.out.free 3
                              have hb := bel1 wt (.cells #[.int .i64 2, .string ⟨#[]⟩, .int .i64 z, .int .i64 ln] 40)
                              have HB3 := hide (bel_next HB.out hb)
                              go_wp2_with (at_builtin; refine Stop.at ?_)
                              unfold Stop
                              refine append_rows rfl _ _ 35 rfl Tryd.underlying35 Tryd.infoTk rfl (by decide) (by decide) encTk_len encTk_one w.heap.size _ out [(2, ⟨#[]⟩, z, ln)] rfl (HO.out.below hb) (some ⟨wt.heap.size, 0, none⟩) 1 1 rfl (fun h => by cases h) (RS.new encTk_len wt _ rfl [(2, ⟨#[]⟩, z, ln)] _ rfl _ _ 1 rfl (by decide)) (by have h9 := hol; simp at h9 ⊢; omega) HB3.out.size ?_
                              intro v5 w5 ho5 hgr5 hbel5
                              have HB5 := hide (hbel5 _ HB3.out)
                              have HX5 : Hid (BX w5 gX #[.int .i64 2, .string ⟨#[]⟩, .int .i64 z, .int .i64 ln] 40) := (HX.out.below hb).grown hgr5 HFR.out
                              have O5 := hide ho5
                              obtain ⟨p5, c5, hv5, _, _⟩ := ho5.open encTk_len
                              subst hv5
                              rw [show (out ++ [((2, ⟨#[]⟩, z, ln) : Tk)]).length = out.length + 1 by simp] at O5 ⊢
                              clear ho5 hgr5 hbel5 hb HB3 HO HB HX HFR
                              clear x0 y0 x1 y1 x2 y2 x3 y3
                              by_cases h8 : out.length + 1 ≤ 800
                              · have h81 : ¬ (800 : Int) < ((out.length + 1 : Nat) : Int) := by omega
                                have HNX : Hid (lexS ((bytesL s).drop q) (ln) (out ++ [(2, ⟨#[]⟩, z, ln)]) = lexS (bytesL s) 1 []) := by unfold Hid; rw [← HRS.out, lexS_word hwd _ _ _ HTK.out, HDR.out, push_ok h8]
                                have hno : (out ++ [((2, ⟨#[]⟩, z, ln) : Tk)]).length ≤ 800 := by simp; omega
                                generalize hq : out.length + 1 = no at *
                                clear hq
                                go_wp2
                                go_roundw
                                case rel => exact ⟨q, ln, out ++ [(2, ⟨#[]⟩, z, ln)], by omega, by go_num, by go_num, (by omega), (by omega), hno, O5, HNX, HB5⟩
                                case measure => simp [intOf]; omega
                              · have h81 : (800 : Int) < ((out.length + 1 : Nat) : Int) := by omega
                                have HER : Hid (lexS (bytesL s) 1 [] = .error (ln, 7)) := by unfold Hid; rw [← HRS.out, lexS_word hwd _ _ _ HTK.out, HDR.out, push_big (by omega)]
                                generalize hq : out.length + 1 = no at *
                                clear hq
                                have x3 := HX5.out.cell 3 _ rfl
                                go_upto_region 36 with fail
                                go_region
                                go_wp2
                                go_ret3
                                exact ⟨_, [], ln, 7, rfl, by rw [HER.out]; rfl, OwnR.nil _ _, HB5.out.drew⟩
                          · have HTK : Hid (tokW (c :: ((bytesL s).drop (i + 1)).takeWhile isWd) ln = some (1, sx, 0, ln)) := by unfold Hid; rw [← HLX.out]; unfold tokW; rw [hwb, HSB.out]; rfl
                            rw [hwb] at HWM0
                            have HNM := HNM0
                            have HWM := HWM0
                            generalize valN (bytesL sx) = z at *
                            generalize numB (bytesL sx) = nb at *
                            clear hwb HNM0 HWM0
                            go_upto_region 28 with (first | (go_at_call 27; refine (HNM.out _).mono ?_; rintro e wn ⟨rfl, hb⟩; replace HX := hide (HX.out.below hb); replace HO := hide (HO.out.below hb); replace HB := hide (bel_next HB.out hb); clear hb) | (go_at_call 21; refine (HWM.out _).mono ?_; rintro e wo ⟨rfl, hw9⟩; have hw8 := hw9.symm; subst hw8; clear hw9))
                            generalize hwx2 : wn = wx at *
                            clear hwx2
                            have x0 := HX.out.cell 0 _ rfl
                            have y0 := HX.out.free 0
                            have x1 := HX.out.cell 1 _ rfl
                            have y1 := HX.out.free 1
                            have x2 := HX.out.cell 2 _ rfl
                            have y2 := HX.out.free 2
                            have x3 := HX.out.cell 3 _ rfl
                            have y3 := HX.out.free 3
                            go_upto_region 34 with fail
                            clear x0 y0 x1 y1 x2 y2 x3 y3
                            replace HX : Hid (BX (wx.setCell ⟨gX, 0, none⟩ (.int .i64 1)) gX #[.int .i64 1, .string ⟨#[]⟩, .int .i64 0, .int .i64 ln] 40) := HX.out.set 0 _
                            replace HO := hide (OK14.put HO.out HFR.out 0 (.int .i64 1))
                            replace HB := hide (HB.out.setCell (p := ⟨gX, 0, none⟩) hgx (.int .i64 1))
                            replace HX : Hid (BX ((wx.setCell ⟨gX, 0, none⟩ (.int .i64 1)).setCell ⟨gX, 1, none⟩ (.string sx)) gX #[.int .i64 1, .string sx, .int .i64 0, .int .i64 ln] 40) := HX.out.set 1 _
                            replace HO := hide (OK14.put HO.out HFR.out 1 (.string sx))
                            replace HB := hide (HB.out.setCell (p := ⟨gX, 1, none⟩) hgx (.string sx))
                            generalize hwt : ((wx.setCell ⟨gX, 0, none⟩ (.int .i64 1)).setCell ⟨gX, 1, none⟩ (.string sx)) = wt at *
                            clear hwt
                            have x0 := HX.out.cell 0 _ rfl
                            have y0 := HX.out.free 0
                            have x1 := HX.out.cell 1 _ rfl
                            have y1 := HX.out.free 1
                            have x2 := HX.out.cell 2 _ rfl
                            have y2 := HX.out.free 2
                            have x3 := HX.out.cell 3 _ rfl
                            have y3 := HX.out.free 3
                            have hb := bel1 wt (.cells #[.int .i64 1, .string sx, .int .i64 0, .int .i64 ln] 40)
                            have HB3 := hide (bel_next HB.out hb)
                            go_wp2_with (at_builtin; refine Stop.at ?_)
                            unfold Stop
                            refine append_rows rfl _ _ 35 rfl Tryd.underlying35 Tryd.infoTk rfl (by decide) (by decide) encTk_len encTk_one w.heap.size _ out [(1, sx, 0, ln)] rfl (HO.out.below hb) (some ⟨wt.heap.size, 0, none⟩) 1 1 rfl (fun h => by cases h) (RS.new encTk_len wt _ rfl [(1, sx, 0, ln)] _ rfl _ _ 1 rfl (by decide)) (by have h9 := hol; simp at h9 ⊢; omega) HB3.out.size ?_
                            intro v5 w5 ho5 hgr5 hbel5
                            have HB5 := hide (hbel5 _ HB3.out)
                            have HX5 : Hid (BX w5 gX #[.int .i64 1, .string sx, .int .i64 0, .int .i64 ln] 40) := (HX.out.below hb).grown hgr5 HFR.out
                            have O5 := hide ho5
                            obtain ⟨p5, c5, hv5, _, _⟩ := ho5.open encTk_len
                            subst hv5
                            rw [show (out ++ [((1, sx, 0, ln) : Tk)]).length = out.length + 1 by simp] at O5 ⊢
                            clear ho5 hgr5 hbel5 hb HB3 HO HB HX HFR
                            clear x0 y0 x1 y1 x2 y2 x3 y3
                            by_cases h8 : out.length + 1 ≤ 800
                            · have h81 : ¬ (800 : Int) < ((out.length + 1 : Nat) : Int) := by omega
                              have HNX : Hid (lexS ((bytesL s).drop q) (ln) (out ++ [(1, sx, 0, ln)]) = lexS (bytesL s) 1 []) := by unfold Hid; rw [← HRS.out, lexS_word hwd _ _ _ HTK.out, HDR.out, push_ok h8]
                              have hno : (out ++ [((1, sx, 0, ln) : Tk)]).length ≤ 800 := by simp; omega
                              generalize hq : out.length + 1 = no at *
                              clear hq
                              go_wp2
                              go_roundw
                              case rel => exact ⟨q, ln, out ++ [(1, sx, 0, ln)], by omega, by go_num, by go_num, (by omega), (by omega), hno, O5, HNX, HB5⟩
                              case measure => simp [intOf]; omega
                            · have h81 : (800 : Int) < ((out.length + 1 : Nat) : Int) := by omega
                              have HER : Hid (lexS (bytesL s) 1 [] = .error (ln, 7)) := by unfold Hid; rw [← HRS.out, lexS_word hwd _ _ _ HTK.out, HDR.out, push_big (by omega)]
                              generalize hq : out.length + 1 = no at *
                              clear hq
                              have x3 := HX5.out.cell 3 _ rfl
                              go_upto_region 36 with fail
                              go_region
                              go_wp2
                              go_ret3
                              exact ⟨_, [], ln, 7, rfl, by rw [HER.out]; rfl, OwnR.nil _ _, HB5.out.drew⟩
                    · have HL := hide hl
                      have HD := hide hd
                      clear hl hd
                      have g1 : (c == 32) = false := by simpa using h11
                      have g2 : (c == 9) = false := by simpa using h12
                      have g3 : (c == 35) = false := by simpa using h2
                      have g4 : (c == 58) = false := by simpa using h3
                      have g5 : (c == 44) = false := by simpa using h4
                      have g6 : (c == 10) = false := by simpa using h5
                      clear h1 h11 h12 h2 h3 h4 h5
                      go_wp2_with (first | (go_at_call 25; refine (letter14 c _).mono ?_; rintro e wl ⟨rfl, hw9⟩; have hw8 := hw9.symm; subst hw8; clear hw9; rw [HL.out]) | (go_at_call 26; refine (digit14 c _).mono ?_; rintro e wl ⟨rfl, hw9⟩; have hw8 := hw9.symm; subst hw8; clear hw9; rw [HD.out]))
                      go_loopw [7] (fun v wr => ∃ q : Nat, i + 1 ≤ q ∧ q ≤ n ∧ v = .int .i64 q ∧ Hid (∀ (k : Nat) x, i ≤ k → k < q → (bytesL s)[k]? = some x → isWd x = true) ∧ wr = wx) (fun v _ => n - (intOf v).toNat)
                      case atStart => exact ⟨i + 1, by omega, by omega, by go_num, fun k x hk1 hk2 hx => (by obtain rfl : k = i := by omega
                                                                                                             rw [HAT.out] at hx; cases hx; exact hwd), rfl⟩
                      case round =>
                        obtain ⟨q, hq1, hq2, rfl, HF, hww⟩ := hrel
                        have hww2 := hww.symm
                        subst hww2
                        clear hww
                        by_cases hlq : q < n
                        · have hq3 : (0 : Int) ≤ (q : Int) := by omega
                          have hq4 : (q : Int) < (n : Int) := by omega
                          have HAQ := hide (bytesL_at (s := s) (i := q) (by rw [HN.out]; exact hlq))
                          have hiq : ∀ h : q < s.size, ((s[q]'h).toNat : Int) = byS s q := fun h => byS_is h
                          generalize byS s q = d at *
                          rcases hl : isLt d with _ | _
                          · have HL2 := hide hl
                            rcases hd : isDg d with _ | _
                            · have HD2 := hide hd
                              by_cases h45 : d = 45
                              · have hwq : isWd d = true := by rw [h45]; decide
                                have g45 : (d == 45) = true := by simpa using h45
                                clear h45
                                have HF2 : Hid (∀ (k : Nat) x, i ≤ k → k < q + 1 → (bytesL s)[k]? = some x → isWd x = true) := fun k x hk1 hk2 hx => by
                                  by_cases e : k = q
                                  · subst e
                                    rw [HAQ.out] at hx
                                    cases hx
                                    exact hwq
                                  · exact HF.out k x hk1 (by omega) hx
                                clear hl hd
                                go_wp2_with (first | (go_at_call 25; refine (letter14 d _).mono ?_; rintro e wl ⟨rfl, hw9⟩; have hw8 := hw9.symm; subst hw8; clear hw9; rw [HL2.out]) | (go_at_call 26; refine (digit14 d _).mono ?_; rintro e wl ⟨rfl, hw9⟩; have hw8 := hw9.symm; subst hw8; clear hw9; rw [HD2.out]))
                                go_roundw
                                case rel => exact ⟨q + 1, by omega, by omega, by go_num, HF2, by trivial⟩
                                case measure => simp [intOf]; omega
                              · have hwq : isWd d = false := by unfold isWd; rw [hl, hd, decide_eq_false h45]; rfl
                                have g45 : (d == 45) = false := by simpa using h45
                                clear h45
                                clear hl hd
                                go_upto_region 26 with (first | (go_at_call 25; refine (letter14 d _).mono ?_; rintro e wl ⟨rfl, hw9⟩; have hw8 := hw9.symm; subst hw8; clear hw9; rw [HL2.out]) | (go_at_call 26; refine (digit14 d _).mono ?_; rintro e wl ⟨rfl, hw9⟩; have hw8 := hw9.symm; subst hw8; clear hw9; rw [HD2.out]))
                                have HRN := hide (takeW_run (p := isWd) (l := bytesL s) (a := i) (i := q) (by omega) (by rw [bytesL_sz, HN.out]; exact hq2) HF.out (.inr ⟨d, HAQ.out, hwq⟩))
                                have hws : 0 < 1 := by omega
                                have hsz : (s.extract i q).size ≤ 10000 := by rw [ByteArray.size_extract]; have := HN.out; omega
                                have HLX : Hid (bytesL (s.extract i q) = c :: ((bytesL s).drop (i + 1)).takeWhile isWd) := by
                                  unfold Hid
                                  rw [bytesL_cut s i q (by rw [HN.out]; exact hq2), ← HRN.out.1, drop_at HAT.out, List.takeWhile_cons, if_pos hwd]
                                have HDR : Hid (((bytesL s).drop (i + 1)).dropWhile isWd = (bytesL s).drop q) := by
                                  have z := HRN.out.2
                                  rw [drop_at HAT.out, List.dropWhile_cons, if_pos hwd] at z
                                  exact z
                                have HSB : Hid (strOfNums (bytesL (s.extract i q)) = s.extract i q) := str_by14 _
                                have HNM0 := hide (fun W => Number14 (s.extract i q) W hsz)
                                have HWM0 := hide (fun W => Word14 (s.extract i q) W hsz)
                                have hiq1 : (i : Int) ≤ (q : Int) := by omega
                                have hiq2 : (q : Int) ≤ (n : Int) := by omega
                                have hiq3 : i ≤ q := by omega
                                have hiq4 : q ≤ n := by omega
                                obtain ⟨sx, hsx⟩ : ∃ x, s.extract i q = x := ⟨_, rfl⟩
                                rw [hsx] at HLX HSB HNM0 HWM0
                                clear hsz HRN HF
                                rcases hwb : wordB (bytesL sx) with _ | _
                                · rcases hnb : numB (bytesL sx) with _ | _
                                  · have HER : Hid (lexS (bytesL s) 1 [] = .error (ln, 2)) := by unfold Hid; rw [← HRS.out]; exact lexS_none hwd _ _ _ (by rw [← HLX.out]; unfold tokW; rw [hwb, hnb]; rfl)
                                    rw [hnb] at HNM0
                                    rw [hwb] at HWM0
                                    have HNM := HNM0
                                    have HWM := HWM0
                                    generalize valN (bytesL sx) = z at *
                                    clear hwb hnb HNM0 HWM0
                                    go_upto_region 33 with (first | (go_at_call 27; refine (HNM.out _).mono ?_; rintro e wn ⟨rfl, hb⟩; replace HX := hide (HX.out.below hb); replace HO := hide (HO.out.below hb); replace HB := hide (bel_next HB.out hb); clear hb) | (go_at_call 21; refine (HWM.out _).mono ?_; rintro e wo ⟨rfl, hw9⟩; have hw8 := hw9.symm; subst hw8; clear hw9))
                                    have x3 := HX.out.cell 3 _ rfl
                                    go_region
                                    go_wp2
                                    go_ret3
                                    exact ⟨_, [], ln, 2, rfl, by rw [HER.out]; rfl, OwnR.nil _ _, HB.out.drew⟩
                                  · have HTK : Hid (tokW (c :: ((bytesL s).drop (i + 1)).takeWhile isWd) ln = some (2, ⟨#[]⟩, valN (bytesL sx), ln)) := by unfold Hid; rw [← HLX.out]; unfold tokW; rw [hwb, hnb]; rfl
                                    rw [hnb] at HNM0
                                    rw [hwb] at HWM0
                                    have HNM := HNM0
                                    have HWM := HWM0
                                    generalize valN (bytesL sx) = z at *
                                    clear hwb hnb HNM0 HWM0
                                    go_upto_region 31 with (first | (go_at_call 27; refine (HNM.out _).mono ?_; rintro e wn ⟨rfl, hb⟩; replace HX := hide (HX.out.below hb); replace HO := hide (HO.out.below hb); replace HB := hide (bel_next HB.out hb); clear hb) | (go_at_call 21; refine (HWM.out _).mono ?_; rintro e wo ⟨rfl, hw9⟩; have hw8 := hw9.symm; subst hw8; clear hw9))
                                    generalize hwx2 : wn = wx at *
                                    clear hwx2
                                    have x0 := HX.out.cell 0 _ rfl
                                    have y0 := HX.out.free 0
                                    have x1 := HX.out.cell 1 _ rfl
                                    have y1 := HX.out.free 1
                                    have x2 := HX.out.cell 2 _ rfl
                                    have y2 := HX.out.free 2
                                    have x3 := HX.out.cell 3 _ rfl
                                    have y3 := HX.out.free 3
                                    go_upto_region 34 with fail
                                    clear x0 y0 x1 y1 x2 y2 x3 y3
                                    replace HX : Hid (BX (wx.setCell ⟨gX, 0, none⟩ (.int .i64 2)) gX #[.int .i64 2, .string ⟨#[]⟩, .int .i64 0, .int .i64 ln] 40) := HX.out.set 0 _
                                    replace HO := hide (OK14.put HO.out HFR.out 0 (.int .i64 2))
                                    replace HB := hide (HB.out.setCell (p := ⟨gX, 0, none⟩) hgx (.int .i64 2))
                                    replace HX : Hid (BX ((wx.setCell ⟨gX, 0, none⟩ (.int .i64 2)).setCell ⟨gX, 2, none⟩ (.int .i64 z)) gX #[.int .i64 2, .string ⟨#[]⟩, .int .i64 z, .int .i64 ln] 40) := HX.out.set 2 _
                                    replace HO := hide (OK14.put HO.out HFR.out 2 (.int .i64 z))
                                    replace HB := hide (HB.out.setCell (p := ⟨gX, 2, none⟩) hgx (.int .i64 z))
                                    generalize hwt : ((wx.setCell ⟨gX, 0, none⟩ (.int .i64 2)).setCell ⟨gX, 2, none⟩ (.int .i64 z)) = wt at *
                                    clear hwt
                                    have x0 := HX.out.cell 0 _ rfl
                                    have y0 := HX.out.free 0
                                    have x1 := HX.out.cell 1 _ rfl
                                    have y1 := HX.out.free 1
                                    have x2 := HX.out.cell 2 _ rfl
                                    have y2 := HX.out.free 2
                                    have x3 := HX.out.cell 3 _ rfl
                                    have y3 := HX.out.free 3
                                    have hb := bel1 wt (.cells #[.int .i64 2, .string ⟨#[]⟩, .int .i64 z, .int .i64 ln] 40)
                                    have HB3 := hide (bel_next HB.out hb)
                                    go_wp2_with (at_builtin; refine Stop.at ?_)
                                    unfold Stop
                                    refine append_rows rfl _ _ 35 rfl Tryd.underlying35 Tryd.infoTk rfl (by decide) (by decide) encTk_len encTk_one w.heap.size _ out [(2, ⟨#[]⟩, z, ln)] rfl (HO.out.below hb) (some ⟨wt.heap.size, 0, none⟩) 1 1 rfl (fun h => by cases h) (RS.new encTk_len wt _ rfl [(2, ⟨#[]⟩, z, ln)] _ rfl _ _ 1 rfl (by decide)) (by have h9 := hol; simp at h9 ⊢; omega) HB3.out.size ?_
                                    intro v5 w5 ho5 hgr5 hbel5
                                    have HB5 := hide (hbel5 _ HB3.out)
                                    have HX5 : Hid (BX w5 gX #[.int .i64 2, .string ⟨#[]⟩, .int .i64 z, .int .i64 ln] 40) := (HX.out.below hb).grown hgr5 HFR.out
                                    have O5 := hide ho5
                                    obtain ⟨p5, c5, hv5, _, _⟩ := ho5.open encTk_len
                                    subst hv5
                                    rw [show (out ++ [((2, ⟨#[]⟩, z, ln) : Tk)]).length = out.length + 1 by simp] at O5 ⊢
                                    clear ho5 hgr5 hbel5 hb HB3 HO HB HX HFR
                                    clear x0 y0 x1 y1 x2 y2 x3 y3
                                    by_cases h8 : out.length + 1 ≤ 800
                                    · have h81 : ¬ (800 : Int) < ((out.length + 1 : Nat) : Int) := by omega
                                      have HNX : Hid (lexS ((bytesL s).drop q) (ln) (out ++ [(2, ⟨#[]⟩, z, ln)]) = lexS (bytesL s) 1 []) := by unfold Hid; rw [← HRS.out, lexS_word hwd _ _ _ HTK.out, HDR.out, push_ok h8]
                                      have hno : (out ++ [((2, ⟨#[]⟩, z, ln) : Tk)]).length ≤ 800 := by simp; omega
                                      generalize hq : out.length + 1 = no at *
                                      clear hq
                                      go_wp2
                                      go_roundw
                                      case rel => exact ⟨q, ln, out ++ [(2, ⟨#[]⟩, z, ln)], by omega, by go_num, by go_num, (by omega), (by omega), hno, O5, HNX, HB5⟩
                                      case measure => simp [intOf]; omega
                                    · have h81 : (800 : Int) < ((out.length + 1 : Nat) : Int) := by omega
                                      have HER : Hid (lexS (bytesL s) 1 [] = .error (ln, 7)) := by unfold Hid; rw [← HRS.out, lexS_word hwd _ _ _ HTK.out, HDR.out, push_big (by omega)]
                                      generalize hq : out.length + 1 = no at *
                                      clear hq
                                      have x3 := HX5.out.cell 3 _ rfl
                                      go_upto_region 36 with fail
                                      go_region
                                      go_wp2
                                      go_ret3
                                      exact ⟨_, [], ln, 7, rfl, by rw [HER.out]; rfl, OwnR.nil _ _, HB5.out.drew⟩
                                · have HTK : Hid (tokW (c :: ((bytesL s).drop (i + 1)).takeWhile isWd) ln = some (1, sx, 0, ln)) := by unfold Hid; rw [← HLX.out]; unfold tokW; rw [hwb, HSB.out]; rfl
                                  rw [hwb] at HWM0
                                  have HNM := HNM0
                                  have HWM := HWM0
                                  generalize valN (bytesL sx) = z at *
                                  generalize numB (bytesL sx) = nb at *
                                  clear hwb HNM0 HWM0
                                  go_upto_region 28 with (first | (go_at_call 27; refine (HNM.out _).mono ?_; rintro e wn ⟨rfl, hb⟩; replace HX := hide (HX.out.below hb); replace HO := hide (HO.out.below hb); replace HB := hide (bel_next HB.out hb); clear hb) | (go_at_call 21; refine (HWM.out _).mono ?_; rintro e wo ⟨rfl, hw9⟩; have hw8 := hw9.symm; subst hw8; clear hw9))
                                  generalize hwx2 : wn = wx at *
                                  clear hwx2
                                  have x0 := HX.out.cell 0 _ rfl
                                  have y0 := HX.out.free 0
                                  have x1 := HX.out.cell 1 _ rfl
                                  have y1 := HX.out.free 1
                                  have x2 := HX.out.cell 2 _ rfl
                                  have y2 := HX.out.free 2
                                  have x3 := HX.out.cell 3 _ rfl
                                  have y3 := HX.out.free 3
                                  go_upto_region 34 with fail
                                  clear x0 y0 x1 y1 x2 y2 x3 y3
                                  replace HX : Hid (BX (wx.setCell ⟨gX, 0, none⟩ (.int .i64 1)) gX #[.int .i64 1, .string ⟨#[]⟩, .int .i64 0, .int .i64 ln] 40) := HX.out.set 0 _
                                  replace HO := hide (OK14.put HO.out HFR.out 0 (.int .i64 1))
                                  replace HB := hide (HB.out.setCell (p := ⟨gX, 0, none⟩) hgx (.int .i64 1))
                                  replace HX : Hid (BX ((wx.setCell ⟨gX, 0, none⟩ (.int .i64 1)).setCell ⟨gX, 1, none⟩ (.string sx)) gX #[.int .i64 1, .string sx, .int .i64 0, .int .i64 ln] 40) := HX.out.set 1 _
                                  replace HO := hide (OK14.put HO.out HFR.out 1 (.string sx))
                                  replace HB := hide (HB.out.setCell (p := ⟨gX, 1, none⟩) hgx (.string sx))
                                  generalize hwt : ((wx.setCell ⟨gX, 0, none⟩ (.int .i64 1)).setCell ⟨gX, 1, none⟩ (.string sx)) = wt at *
                                  clear hwt
                                  have x0 := HX.out.cell 0 _ rfl
                                  have y0 := HX.out.free 0
                                  have x1 := HX.out.cell 1 _ rfl
                                  have y1 := HX.out.free 1
                                  have x2 := HX.out.cell 2 _ rfl
                                  have y2 := HX.out.free 2
                                  have x3 := HX.out.cell 3 _ rfl
                                  have y3 := HX.out.free 3
                                  have hb := bel1 wt (.cells #[.int .i64 1, .string sx, .int .i64 0, .int .i64 ln] 40)
                                  have HB3 := hide (bel_next HB.out hb)
                                  go_wp2_with (at_builtin; refine Stop.at ?_)
                                  unfold Stop
                                  refine append_rows rfl _ _ 35 rfl Tryd.underlying35 Tryd.infoTk rfl (by decide) (by decide) encTk_len encTk_one w.heap.size _ out [(1, sx, 0, ln)] rfl (HO.out.below hb) (some ⟨wt.heap.size, 0, none⟩) 1 1 rfl (fun h => by cases h) (RS.new encTk_len wt _ rfl [(1, sx, 0, ln)] _ rfl _ _ 1 rfl (by decide)) (by have h9 := hol; simp at h9 ⊢; omega) HB3.out.size ?_
                                  intro v5 w5 ho5 hgr5 hbel5
                                  have HB5 := hide (hbel5 _ HB3.out)
                                  have HX5 : Hid (BX w5 gX #[.int .i64 1, .string sx, .int .i64 0, .int .i64 ln] 40) := (HX.out.below hb).grown hgr5 HFR.out
                                  have O5 := hide ho5
                                  obtain ⟨p5, c5, hv5, _, _⟩ := ho5.open encTk_len
                                  subst hv5
                                  rw [show (out ++ [((1, sx, 0, ln) : Tk)]).length = out.length + 1 by simp] at O5 ⊢
                                  clear ho5 hgr5 hbel5 hb HB3 HO HB HX HFR
                                  clear x0 y0 x1 y1 x2 y2 x3 y3
                                  by_cases h8 : out.length + 1 ≤ 800
                                  · have h81 : ¬ (800 : Int) < ((out.length + 1 : Nat) : Int) := by omega
                                    have HNX : Hid (lexS ((bytesL s).drop q) (ln) (out ++ [(1, sx, 0, ln)]) = lexS (bytesL s) 1 []) := by unfold Hid; rw [← HRS.out, lexS_word hwd _ _ _ HTK.out, HDR.out, push_ok h8]
                                    have hno : (out ++ [((1, sx, 0, ln) : Tk)]).length ≤ 800 := by simp; omega
                                    generalize hq : out.length + 1 = no at *
                                    clear hq
                                    go_wp2
                                    go_roundw
                                    case rel => exact ⟨q, ln, out ++ [(1, sx, 0, ln)], by omega, by go_num, by go_num, (by omega), (by omega), hno, O5, HNX, HB5⟩
                                    case measure => simp [intOf]; omega
                                  · have h81 : (800 : Int) < ((out.length + 1 : Nat) : Int) := by omega
                                    have HER : Hid (lexS (bytesL s) 1 [] = .error (ln, 7)) := by unfold Hid; rw [← HRS.out, lexS_word hwd _ _ _ HTK.out, HDR.out, push_big (by omega)]
                                    generalize hq : out.length + 1 = no at *
                                    clear hq
                                    have x3 := HX5.out.cell 3 _ rfl
                                    go_upto_region 36 with fail
                                    go_region
                                    go_wp2
                                    go_ret3
                                    exact ⟨_, [], ln, 7, rfl, by rw [HER.out]; rfl, OwnR.nil _ _, HB5.out.drew⟩
                            · have HD2 := hide hd
                              have hwq : isWd d = true := by unfold isWd; rw [hd]; simp
                              have HF2 : Hid (∀ (k : Nat) x, i ≤ k → k < q + 1 → (bytesL s)[k]? = some x → isWd x = true) := fun k x hk1 hk2 hx => by
                                by_cases e : k = q
                                · subst e
                                  rw [HAQ.out] at hx
                                  cases hx
                                  exact hwq
                                · exact HF.out k x hk1 (by omega) hx
                              clear hl hd
                              go_wp2_with (first | (go_at_call 25; refine (letter14 d _).mono ?_; rintro e wl ⟨rfl, hw9⟩; have hw8 := hw9.symm; subst hw8; clear hw9; rw [HL2.out]) | (go_at_call 26; refine (digit14 d _).mono ?_; rintro e wl ⟨rfl, hw9⟩; have hw8 := hw9.symm; subst hw8; clear hw9; rw [HD2.out]))
                              go_roundw
                              case rel => exact ⟨q + 1, by omega, by omega, by go_num, HF2, by trivial⟩
                              case measure => simp [intOf]; omega
                          · have HL2 := hide hl
                            have hwq : isWd d = true := by unfold isWd; rw [hl]; rfl
                            have HF2 : Hid (∀ (k : Nat) x, i ≤ k → k < q + 1 → (bytesL s)[k]? = some x → isWd x = true) := fun k x hk1 hk2 hx => by
                              by_cases e : k = q
                              · subst e
                                rw [HAQ.out] at hx
                                cases hx
                                exact hwq
                              · exact HF.out k x hk1 (by omega) hx
                            clear hl
                            go_wp2_with (go_at_call 25; refine (letter14 d _).mono ?_; rintro e wl ⟨rfl, hw9⟩; have hw8 := hw9.symm; subst hw8; clear hw9; rw [HL2.out])
                            go_roundw
                            case rel => exact ⟨q + 1, by omega, by omega, by go_num, HF2, by trivial⟩
                            case measure => simp [intOf]; omega
                        · have hq4 : ¬ (q : Int) < (n : Int) := by omega
                          go_upto_region 26 with fail
                          have HRN := hide (takeW_run (p := isWd) (l := bytesL s) (a := i) (i := q) (by omega) (by rw [bytesL_sz, HN.out]; exact hq2) HF.out (.inl (by rw [bytesL_sz, HN.out]; omega)))
                          have hws : 0 < 1 := by omega
                          have hsz : (s.extract i q).size ≤ 10000 := by rw [ByteArray.size_extract]; have := HN.out; omega
                          have HLX : Hid (bytesL (s.extract i q) = c :: ((bytesL s).drop (i + 1)).takeWhile isWd) := by
                            unfold Hid
                            rw [bytesL_cut s i q (by rw [HN.out]; exact hq2), ← HRN.out.1, drop_at HAT.out, List.takeWhile_cons, if_pos hwd]
                          have HDR : Hid (((bytesL s).drop (i + 1)).dropWhile isWd = (bytesL s).drop q) := by
                            have z := HRN.out.2
                            rw [drop_at HAT.out, List.dropWhile_cons, if_pos hwd] at z
                            exact z
                          have HSB : Hid (strOfNums (bytesL (s.extract i q)) = s.extract i q) := str_by14 _
                          have HNM0 := hide (fun W => Number14 (s.extract i q) W hsz)
                          have HWM0 := hide (fun W => Word14 (s.extract i q) W hsz)
                          have hiq1 : (i : Int) ≤ (q : Int) := by omega
                          have hiq2 : (q : Int) ≤ (n : Int) := by omega
                          have hiq3 : i ≤ q := by omega
                          have hiq4 : q ≤ n := by omega
                          obtain ⟨sx, hsx⟩ : ∃ x, s.extract i q = x := ⟨_, rfl⟩
                          rw [hsx] at HLX HSB HNM0 HWM0
                          clear hsz HRN HF
                          rcases hwb : wordB (bytesL sx) with _ | _
                          · rcases hnb : numB (bytesL sx) with _ | _
                            · have HER : Hid (lexS (bytesL s) 1 [] = .error (ln, 2)) := by unfold Hid; rw [← HRS.out]; exact lexS_none hwd _ _ _ (by rw [← HLX.out]; unfold tokW; rw [hwb, hnb]; rfl)
                              rw [hnb] at HNM0
                              rw [hwb] at HWM0
                              have HNM := HNM0
                              have HWM := HWM0
                              generalize valN (bytesL sx) = z at *
                              clear hwb hnb HNM0 HWM0
                              go_upto_region 33 with (first | (go_at_call 27; refine (HNM.out _).mono ?_; rintro e wn ⟨rfl, hb⟩; replace HX := hide (HX.out.below hb); replace HO := hide (HO.out.below hb); replace HB := hide (bel_next HB.out hb); clear hb) | (go_at_call 21; refine (HWM.out _).mono ?_; rintro e wo ⟨rfl, hw9⟩; have hw8 := hw9.symm; subst hw8; clear hw9))
                              have x3 := HX.out.cell 3 _ rfl
                              go_region
                              go_wp2
                              go_ret3
                              exact ⟨_, [], ln, 2, rfl, by rw [HER.out]; rfl, OwnR.nil _ _, HB.out.drew⟩
                            · have HTK : Hid (tokW (c :: ((bytesL s).drop (i + 1)).takeWhile isWd) ln = some (2, ⟨#[]⟩, valN (bytesL sx), ln)) := by unfold Hid; rw [← HLX.out]; unfold tokW; rw [hwb, hnb]; rfl
                              rw [hnb] at HNM0
                              rw [hwb] at HWM0
                              have HNM := HNM0
                              have HWM := HWM0
                              generalize valN (bytesL sx) = z at *
                              clear hwb hnb HNM0 HWM0
                              go_upto_region 31 with (first | (go_at_call 27; refine (HNM.out _).mono ?_; rintro e wn ⟨rfl, hb⟩; replace HX := hide (HX.out.below hb); replace HO := hide (HO.out.below hb); replace HB := hide (bel_next HB.out hb); clear hb) | (go_at_call 21; refine (HWM.out _).mono ?_; rintro e wo ⟨rfl, hw9⟩; have hw8 := hw9.symm; subst hw8; clear hw9))
                              generalize hwx2 : wn = wx at *
                              clear hwx2
                              have x0 := HX.out.cell 0 _ rfl
                              have y0 := HX.out.free 0
                              have x1 := HX.out.cell 1 _ rfl
                              have y1 := HX.out.free 1
                              have x2 := HX.out.cell 2 _ rfl
                              have y2 := HX.out.free 2
                              have x3 := HX.out.cell 3 _ rfl
                              have y3 := HX.out.free 3
                              go_upto_region 34 with fail
                              clear x0 y0 x1 y1 x2 y2 x3 y3
                              replace HX : Hid (BX (wx.setCell ⟨gX, 0, none⟩ (.int .i64 2)) gX #[.int .i64 2, .string ⟨#[]⟩, .int .i64 0, .int .i64 ln] 40) := HX.out.set 0 _
                              replace HO := hide (OK14.put HO.out HFR.out 0 (.int .i64 2))
                              replace HB := hide (HB.out.setCell (p := ⟨gX, 0, none⟩) hgx (.int .i64 2))
                              replace HX : Hid (BX ((wx.setCell ⟨gX, 0, none⟩ (.int .i64 2)).setCell ⟨gX, 2, none⟩ (.int .i64 z)) gX #[.int .i64 2, .string ⟨#[]⟩, .int .i64 z, .int .i64 ln] 40) := HX.out.set 2 _
                              replace HO := hide (OK14.put HO.out HFR.out 2 (.int .i64 z))
                              replace HB := hide (HB.out.setCell (p := ⟨gX, 2, none⟩) hgx (.int .i64 z))
                              generalize hwt : ((wx.setCell ⟨gX, 0, none⟩ (.int .i64 2)).setCell ⟨gX, 2, none⟩ (.int .i64 z)) = wt at *
                              clear hwt
                              have x0 := HX.out.cell 0 _ rfl
                              have y0 := HX.out.free 0
                              have x1 := HX.out.cell 1 _ rfl
                              have y1 := HX.out.free 1
                              have x2 := HX.out.cell 2 _ rfl
                              have y2 := HX.out.free 2
                              have x3 := HX.out.cell 3 _ rfl
                              have y3 := HX.out.free 3
                              have hb := bel1 wt (.cells #[.int .i64 2, .string ⟨#[]⟩, .int .i64 z, .int .i64 ln] 40)
                              have HB3 := hide (bel_next HB.out hb)
                              go_wp2_with (at_builtin; refine Stop.at ?_)
                              unfold Stop
                              refine append_rows rfl _ _ 35 rfl Tryd.underlying35 Tryd.infoTk rfl (by decide) (by decide) encTk_len encTk_one w.heap.size _ out [(2, ⟨#[]⟩, z, ln)] rfl (HO.out.below hb) (some ⟨wt.heap.size, 0, none⟩) 1 1 rfl (fun h => by cases h) (RS.new encTk_len wt _ rfl [(2, ⟨#[]⟩, z, ln)] _ rfl _ _ 1 rfl (by decide)) (by have h9 := hol; simp at h9 ⊢; omega) HB3.out.size ?_
                              intro v5 w5 ho5 hgr5 hbel5
                              have HB5 := hide (hbel5 _ HB3.out)
                              have HX5 : Hid (BX w5 gX #[.int .i64 2, .string ⟨#[]⟩, .int .i64 z, .int .i64 ln] 40) := (HX.out.below hb).grown hgr5 HFR.out
                              have O5 := hide ho5
                              obtain ⟨p5, c5, hv5, _, _⟩ := ho5.open encTk_len
                              subst hv5
                              rw [show (out ++ [((2, ⟨#[]⟩, z, ln) : Tk)]).length = out.length + 1 by simp] at O5 ⊢
                              clear ho5 hgr5 hbel5 hb HB3 HO HB HX HFR
                              clear x0 y0 x1 y1 x2 y2 x3 y3
                              by_cases h8 : out.length + 1 ≤ 800
                              · have h81 : ¬ (800 : Int) < ((out.length + 1 : Nat) : Int) := by omega
                                have HNX : Hid (lexS ((bytesL s).drop q) (ln) (out ++ [(2, ⟨#[]⟩, z, ln)]) = lexS (bytesL s) 1 []) := by unfold Hid; rw [← HRS.out, lexS_word hwd _ _ _ HTK.out, HDR.out, push_ok h8]
                                have hno : (out ++ [((2, ⟨#[]⟩, z, ln) : Tk)]).length ≤ 800 := by simp; omega
                                generalize hq : out.length + 1 = no at *
                                clear hq
                                go_wp2
                                go_roundw
                                case rel => exact ⟨q, ln, out ++ [(2, ⟨#[]⟩, z, ln)], by omega, by go_num, by go_num, (by omega), (by omega), hno, O5, HNX, HB5⟩
                                case measure => simp [intOf]; omega
                              · have h81 : (800 : Int) < ((out.length + 1 : Nat) : Int) := by omega
                                have HER : Hid (lexS (bytesL s) 1 [] = .error (ln, 7)) := by unfold Hid; rw [← HRS.out, lexS_word hwd _ _ _ HTK.out, HDR.out, push_big (by omega)]
                                generalize hq : out.length + 1 = no at *
                                clear hq
                                have x3 := HX5.out.cell 3 _ rfl
                                go_upto_region 36 with fail
                                go_region
                                go_wp2
                                go_ret3
                                exact ⟨_, [], ln, 7, rfl, by rw [HER.out]; rfl, OwnR.nil _ _, HB5.out.drew⟩
                          · have HTK : Hid (tokW (c :: ((bytesL s).drop (i + 1)).takeWhile isWd) ln = some (1, sx, 0, ln)) := by unfold Hid; rw [← HLX.out]; unfold tokW; rw [hwb, HSB.out]; rfl
                            rw [hwb] at HWM0
                            have HNM := HNM0
                            have HWM := HWM0
                            generalize valN (bytesL sx) = z at *
                            generalize numB (bytesL sx) = nb at *
                            clear hwb HNM0 HWM0
                            go_upto_region 28 with (first | (go_at_call 27; refine (HNM.out _).mono ?_; rintro e wn ⟨rfl, hb⟩; replace HX := hide (HX.out.below hb); replace HO := hide (HO.out.below hb); replace HB := hide (bel_next HB.out hb); clear hb) | (go_at_call 21; refine (HWM.out _).mono ?_; rintro e wo ⟨rfl, hw9⟩; have hw8 := hw9.symm; subst hw8; clear hw9))
                            generalize hwx2 : wn = wx at *
                            clear hwx2
                            have x0 := HX.out.cell 0 _ rfl
                            have y0 := HX.out.free 0
                            have x1 := HX.out.cell 1 _ rfl
                            have y1 := HX.out.free 1
                            have x2 := HX.out.cell 2 _ rfl
                            have y2 := HX.out.free 2
                            have x3 := HX.out.cell 3 _ rfl
                            have y3 := HX.out.free 3
                            go_upto_region 34 with fail
                            clear x0 y0 x1 y1 x2 y2 x3 y3
                            replace HX : Hid (BX (wx.setCell ⟨gX, 0, none⟩ (.int .i64 1)) gX #[.int .i64 1, .string ⟨#[]⟩, .int .i64 0, .int .i64 ln] 40) := HX.out.set 0 _
                            replace HO := hide (OK14.put HO.out HFR.out 0 (.int .i64 1))
                            replace HB := hide (HB.out.setCell (p := ⟨gX, 0, none⟩) hgx (.int .i64 1))
                            replace HX : Hid (BX ((wx.setCell ⟨gX, 0, none⟩ (.int .i64 1)).setCell ⟨gX, 1, none⟩ (.string sx)) gX #[.int .i64 1, .string sx, .int .i64 0, .int .i64 ln] 40) := HX.out.set 1 _
                            replace HO := hide (OK14.put HO.out HFR.out 1 (.string sx))
                            replace HB := hide (HB.out.setCell (p := ⟨gX, 1, none⟩) hgx (.string sx))
                            generalize hwt : ((wx.setCell ⟨gX, 0, none⟩ (.int .i64 1)).setCell ⟨gX, 1, none⟩ (.string sx)) = wt at *
                            clear hwt
                            have x0 := HX.out.cell 0 _ rfl
                            have y0 := HX.out.free 0
                            have x1 := HX.out.cell 1 _ rfl
                            have y1 := HX.out.free 1
                            have x2 := HX.out.cell 2 _ rfl
                            have y2 := HX.out.free 2
                            have x3 := HX.out.cell 3 _ rfl
                            have y3 := HX.out.free 3
                            have hb := bel1 wt (.cells #[.int .i64 1, .string sx, .int .i64 0, .int .i64 ln] 40)
                            have HB3 := hide (bel_next HB.out hb)
                            go_wp2_with (at_builtin; refine Stop.at ?_)
                            unfold Stop
                            refine append_rows rfl _ _ 35 rfl Tryd.underlying35 Tryd.infoTk rfl (by decide) (by decide) encTk_len encTk_one w.heap.size _ out [(1, sx, 0, ln)] rfl (HO.out.below hb) (some ⟨wt.heap.size, 0, none⟩) 1 1 rfl (fun h => by cases h) (RS.new encTk_len wt _ rfl [(1, sx, 0, ln)] _ rfl _ _ 1 rfl (by decide)) (by have h9 := hol; simp at h9 ⊢; omega) HB3.out.size ?_
                            intro v5 w5 ho5 hgr5 hbel5
                            have HB5 := hide (hbel5 _ HB3.out)
                            have HX5 : Hid (BX w5 gX #[.int .i64 1, .string sx, .int .i64 0, .int .i64 ln] 40) := (HX.out.below hb).grown hgr5 HFR.out
                            have O5 := hide ho5
                            obtain ⟨p5, c5, hv5, _, _⟩ := ho5.open encTk_len
                            subst hv5
                            rw [show (out ++ [((1, sx, 0, ln) : Tk)]).length = out.length + 1 by simp] at O5 ⊢
                            clear ho5 hgr5 hbel5 hb HB3 HO HB HX HFR
                            clear x0 y0 x1 y1 x2 y2 x3 y3
                            by_cases h8 : out.length + 1 ≤ 800
                            · have h81 : ¬ (800 : Int) < ((out.length + 1 : Nat) : Int) := by omega
                              have HNX : Hid (lexS ((bytesL s).drop q) (ln) (out ++ [(1, sx, 0, ln)]) = lexS (bytesL s) 1 []) := by unfold Hid; rw [← HRS.out, lexS_word hwd _ _ _ HTK.out, HDR.out, push_ok h8]
                              have hno : (out ++ [((1, sx, 0, ln) : Tk)]).length ≤ 800 := by simp; omega
                              generalize hq : out.length + 1 = no at *
                              clear hq
                              go_wp2
                              go_roundw
                              case rel => exact ⟨q, ln, out ++ [(1, sx, 0, ln)], by omega, by go_num, by go_num, (by omega), (by omega), hno, O5, HNX, HB5⟩
                              case measure => simp [intOf]; omega
                            · have h81 : (800 : Int) < ((out.length + 1 : Nat) : Int) := by omega
                              have HER : Hid (lexS (bytesL s) 1 [] = .error (ln, 7)) := by unfold Hid; rw [← HRS.out, lexS_word hwd _ _ _ HTK.out, HDR.out, push_big (by omega)]
                              generalize hq : out.length + 1 = no at *
                              clear hq
                              have x3 := HX5.out.cell 3 _ rfl
                              go_upto_region 36 with fail
                              go_region
                              go_wp2
                              go_ret3
                              exact ⟨_, [], ln, 7, rfl, by rw [HER.out]; rfl, OwnR.nil _ _, HB5.out.drew⟩
                  · have HL := hide hl
                    clear hl
                    have g1 : (c == 32) = false := by simpa using h11
                    have g2 : (c == 9) = false := by simpa using h12
                    have g3 : (c == 35) = false := by simpa using h2
                    have g4 : (c == 58) = false := by simpa using h3
                    have g5 : (c == 44) = false := by simpa using h4
                    have g6 : (c == 10) = false := by simpa using h5
                    clear h1 h11 h12 h2 h3 h4 h5
                    go_wp2_with (go_at_call 25; refine (letter14 c _).mono ?_; rintro e wl ⟨rfl, hw9⟩; have hw8 := hw9.symm; subst hw8; clear hw9; rw [HL.out])
                    go_loopw [7] (fun v wr => ∃ q : Nat, i + 1 ≤ q ∧ q ≤ n ∧ v = .int .i64 q ∧ Hid (∀ (k : Nat) x, i ≤ k → k < q → (bytesL s)[k]? = some x → isWd x = true) ∧ wr = wx) (fun v _ => n - (intOf v).toNat)
                    case atStart => exact ⟨i + 1, by omega, by omega, by go_num, fun k x hk1 hk2 hx => (by obtain rfl : k = i := by omega
                                                                                                           rw [HAT.out] at hx; cases hx; exact hwd), rfl⟩
                    case round =>
                      obtain ⟨q, hq1, hq2, rfl, HF, hww⟩ := hrel
                      have hww2 := hww.symm
                      subst hww2
                      clear hww
                      by_cases hlq : q < n
                      · have hq3 : (0 : Int) ≤ (q : Int) := by omega
                        have hq4 : (q : Int) < (n : Int) := by omega
                        have HAQ := hide (bytesL_at (s := s) (i := q) (by rw [HN.out]; exact hlq))
                        have hiq : ∀ h : q < s.size, ((s[q]'h).toNat : Int) = byS s q := fun h => byS_is h
                        generalize byS s q = d at *
                        rcases hl : isLt d with _ | _
                        · have HL2 := hide hl
                          rcases hd : isDg d with _ | _
                          · have HD2 := hide hd
                            by_cases h45 : d = 45
                            · have hwq : isWd d = true := by rw [h45]; decide
                              have g45 : (d == 45) = true := by simpa using h45
                              clear h45
                              have HF2 : Hid (∀ (k : Nat) x, i ≤ k → k < q + 1 → (bytesL s)[k]? = some x → isWd x = true) := fun k x hk1 hk2 hx => by
                                by_cases e : k = q
                                · subst e
                                  rw [HAQ.out] at hx
                                  cases hx
                                  exact hwq
                                · exact HF.out k x hk1 (by omega) hx
                              clear hl hd
                              go_wp2_with (first | (go_at_call 25; refine (letter14 d _).mono ?_; rintro e wl ⟨rfl, hw9⟩; have hw8 := hw9.symm; subst hw8; clear hw9; rw [HL2.out]) | (go_at_call 26; refine (digit14 d _).mono ?_; rintro e wl ⟨rfl, hw9⟩; have hw8 := hw9.symm; subst hw8; clear hw9; rw [HD2.out]))
                              go_roundw
                              case rel => exact ⟨q + 1, by omega, by omega, by go_num, HF2, by trivial⟩
                              case measure => simp [intOf]; omega
                            · have hwq : isWd d = false := by unfold isWd; rw [hl, hd, decide_eq_false h45]; rfl
                              have g45 : (d == 45) = false := by simpa using h45
                              clear h45
                              clear hl hd
                              go_upto_region 26 with (first | (go_at_call 25; refine (letter14 d _).mono ?_; rintro e wl ⟨rfl, hw9⟩; have hw8 := hw9.symm; subst hw8; clear hw9; rw [HL2.out]) | (go_at_call 26; refine (digit14 d _).mono ?_; rintro e wl ⟨rfl, hw9⟩; have hw8 := hw9.symm; subst hw8; clear hw9; rw [HD2.out]))
                              have HRN := hide (takeW_run (p := isWd) (l := bytesL s) (a := i) (i := q) (by omega) (by rw [bytesL_sz, HN.out]; exact hq2) HF.out (.inr ⟨d, HAQ.out, hwq⟩))
                              have hws : 0 < 1 := by omega
                              have hsz : (s.extract i q).size ≤ 10000 := by rw [ByteArray.size_extract]; have := HN.out; omega
                              have HLX : Hid (bytesL (s.extract i q) = c :: ((bytesL s).drop (i + 1)).takeWhile isWd) := by
                                unfold Hid
                                rw [bytesL_cut s i q (by rw [HN.out]; exact hq2), ← HRN.out.1, drop_at HAT.out, List.takeWhile_cons, if_pos hwd]
                              have HDR : Hid (((bytesL s).drop (i + 1)).dropWhile isWd = (bytesL s).drop q) := by
                                have z := HRN.out.2
                                rw [drop_at HAT.out, List.dropWhile_cons, if_pos hwd] at z
                                exact z
                              have HSB : Hid (strOfNums (bytesL (s.extract i q)) = s.extract i q) := str_by14 _
                              have HNM0 := hide (fun W => Number14 (s.extract i q) W hsz)
                              have HWM0 := hide (fun W => Word14 (s.extract i q) W hsz)
                              have hiq1 : (i : Int) ≤ (q : Int) := by omega
                              have hiq2 : (q : Int) ≤ (n : Int) := by omega
                              have hiq3 : i ≤ q := by omega
                              have hiq4 : q ≤ n := by omega
                              obtain ⟨sx, hsx⟩ : ∃ x, s.extract i q = x := ⟨_, rfl⟩
                              rw [hsx] at HLX HSB HNM0 HWM0
                              clear hsz HRN HF
                              rcases hwb : wordB (bytesL sx) with _ | _
                              · rcases hnb : numB (bytesL sx) with _ | _
                                · have HER : Hid (lexS (bytesL s) 1 [] = .error (ln, 2)) := by unfold Hid; rw [← HRS.out]; exact lexS_none hwd _ _ _ (by rw [← HLX.out]; unfold tokW; rw [hwb, hnb]; rfl)
                                  rw [hnb] at HNM0
                                  rw [hwb] at HWM0
                                  have HNM := HNM0
                                  have HWM := HWM0
                                  generalize valN (bytesL sx) = z at *
                                  clear hwb hnb HNM0 HWM0
                                  go_upto_region 33 with (first | (go_at_call 27; refine (HNM.out _).mono ?_; rintro e wn ⟨rfl, hb⟩; replace HX := hide (HX.out.below hb); replace HO := hide (HO.out.below hb); replace HB := hide (bel_next HB.out hb); clear hb) | (go_at_call 21; refine (HWM.out _).mono ?_; rintro e wo ⟨rfl, hw9⟩; have hw8 := hw9.symm; subst hw8; clear hw9))
                                  have x3 := HX.out.cell 3 _ rfl
                                  go_region
                                  go_wp2
                                  go_ret3
                                  exact ⟨_, [], ln, 2, rfl, by rw [HER.out]; rfl, OwnR.nil _ _, HB.out.drew⟩
                                · have HTK : Hid (tokW (c :: ((bytesL s).drop (i + 1)).takeWhile isWd) ln = some (2, ⟨#[]⟩, valN (bytesL sx), ln)) := by unfold Hid; rw [← HLX.out]; unfold tokW; rw [hwb, hnb]; rfl
                                  rw [hnb] at HNM0
                                  rw [hwb] at HWM0
                                  have HNM := HNM0
                                  have HWM := HWM0
                                  generalize valN (bytesL sx) = z at *
                                  clear hwb hnb HNM0 HWM0
                                  go_upto_region 31 with (first | (go_at_call 27; refine (HNM.out _).mono ?_; rintro e wn ⟨rfl, hb⟩; replace HX := hide (HX.out.below hb); replace HO := hide (HO.out.below hb); replace HB := hide (bel_next HB.out hb); clear hb) | (go_at_call 21; refine (HWM.out _).mono ?_; rintro e wo ⟨rfl, hw9⟩; have hw8 := hw9.symm; subst hw8; clear hw9))
                                  generalize hwx2 : wn = wx at *
                                  clear hwx2
                                  have x0 := HX.out.cell 0 _ rfl
                                  have y0 := HX.out.free 0
                                  have x1 := HX.out.cell 1 _ rfl
                                  have y1 := HX.out.free 1
                                  have x2 := HX.out.cell 2 _ rfl
                                  have y2 := HX.out.free 2
                                  have x3 := HX.out.cell 3 _ rfl
                                  have y3 := HX.out.free 3
                                  go_upto_region 34 with fail
                                  clear x0 y0 x1 y1 x2 y2 x3 y3
                                  replace HX : Hid (BX (wx.setCell ⟨gX, 0, none⟩ (.int .i64 2)) gX #[.int .i64 2, .string ⟨#[]⟩, .int .i64 0, .int .i64 ln] 40) := HX.out.set 0 _
                                  replace HO := hide (OK14.put HO.out HFR.out 0 (.int .i64 2))
                                  replace HB := hide (HB.out.setCell (p := ⟨gX, 0, none⟩) hgx (.int .i64 2))
                                  replace HX : Hid (BX ((wx.setCell ⟨gX, 0, none⟩ (.int .i64 2)).setCell ⟨gX, 2, none⟩ (.int .i64 z)) gX #[.int .i64 2, .string ⟨#[]⟩, .int .i64 z, .int .i64 ln] 40) := HX.out.set 2 _
                                  replace HO := hide (OK14.put HO.out HFR.out 2 (.int .i64 z))
                                  replace HB := hide (HB.out.setCell (p := ⟨gX, 2, none⟩) hgx (.int .i64 z))
                                  generalize hwt : ((wx.setCell ⟨gX, 0, none⟩ (.int .i64 2)).setCell ⟨gX, 2, none⟩ (.int .i64 z)) = wt at *
                                  clear hwt
                                  have x0 := HX.out.cell 0 _ rfl
                                  have y0 := HX.out.free 0
                                  have x1 := HX.out.cell 1 _ rfl
                                  have y1 := HX.out.free 1
                                  have x2 := HX.out.cell 2 _ rfl
                                  have y2 := HX.out.free 2
                                  have x3 := HX.out.cell 3 _ rfl
                                  have y3 := HX.out.free 3
                                  have hb := bel1 wt (.cells #[.int .i64 2, .string ⟨#[]⟩, .int .i64 z, .int .i64 ln] 40)
                                  have HB3 := hide (bel_next HB.out hb)
                                  go_wp2_with (at_builtin; refine Stop.at ?_)
                                  unfold Stop
                                  refine append_rows rfl _ _ 35 rfl Tryd.underlying35 Tryd.infoTk rfl (by decide) (by decide) encTk_len encTk_one w.heap.size _ out [(2, ⟨#[]⟩, z, ln)] rfl (HO.out.below hb) (some ⟨wt.heap.size, 0, none⟩) 1 1 rfl (fun h => by cases h) (RS.new encTk_len wt _ rfl [(2, ⟨#[]⟩, z, ln)] _ rfl _ _ 1 rfl (by decide)) (by have h9 := hol; simp at h9 ⊢; omega) HB3.out.size ?_
                                  intro v5 w5 ho5 hgr5 hbel5
                                  have HB5 := hide (hbel5 _ HB3.out)
                                  have HX5 : Hid (BX w5 gX #[.int .i64 2, .string ⟨#[]⟩, .int .i64 z, .int .i64 ln] 40) := (HX.out.below hb).grown hgr5 HFR.out
                                  have O5 := hide ho5
                                  obtain ⟨p5, c5, hv5, _, _⟩ := ho5.open encTk_len
                                  subst hv5
                                  rw [show (out ++ [((2, ⟨#[]⟩, z, ln) : Tk)]).length = out.length + 1 by simp] at O5 ⊢
                                  clear ho5 hgr5 hbel5 hb HB3 HO HB HX HFR
                                  clear x0 y0 x1 y1 x2 y2 x3 y3
                                  by_cases h8 : out.length + 1 ≤ 800
                                  · have h81 : ¬ (800 : Int) < ((out.length + 1 : Nat) : Int) := by omega
                                    have HNX : Hid (lexS ((bytesL s).drop q) (ln) (out ++ [(2, ⟨#[]⟩, z, ln)]) = lexS (bytesL s) 1 []) := by unfold Hid; rw [← HRS.out, lexS_word hwd _ _ _ HTK.out, HDR.out, push_ok h8]
                                    have hno : (out ++ [((2, ⟨#[]⟩, z, ln) : Tk)]).length ≤ 800 := by simp; omega
                                    generalize hq : out.length + 1 = no at *
                                    clear hq
                                    go_wp2
                                    go_roundw
                                    case rel => exact ⟨q, ln, out ++ [(2, ⟨#[]⟩, z, ln)], by omega, by go_num, by go_num, (by omega), (by omega), hno, O5, HNX, HB5⟩
                                    case measure => simp [intOf]; omega
                                  · have h81 : (800 : Int) < ((out.length + 1 : Nat) : Int) := by omega
                                    have HER : Hid (lexS (bytesL s) 1 [] = .error (ln, 7)) := by unfold Hid; rw [← HRS.out, lexS_word hwd _ _ _ HTK.out, HDR.out, push_big (by omega)]
                                    generalize hq : out.length + 1 = no at *
                                    clear hq
                                    have x3 := HX5.out.cell 3 _ rfl
                                    go_upto_region 36 with fail
                                    go_region
                                    go_wp2
                                    go_ret3
                                    exact ⟨_, [], ln, 7, rfl, by rw [HER.out]; rfl, OwnR.nil _ _, HB5.out.drew⟩
                              · have HTK : Hid (tokW (c :: ((bytesL s).drop (i + 1)).takeWhile isWd) ln = some (1, sx, 0, ln)) := by unfold Hid; rw [← HLX.out]; unfold tokW; rw [hwb, HSB.out]; rfl
                                rw [hwb] at HWM0
                                have HNM := HNM0
                                have HWM := HWM0
                                generalize valN (bytesL sx) = z at *
                                generalize numB (bytesL sx) = nb at *
                                clear hwb HNM0 HWM0
                                go_upto_region 28 with (first | (go_at_call 27; refine (HNM.out _).mono ?_; rintro e wn ⟨rfl, hb⟩; replace HX := hide (HX.out.below hb); replace HO := hide (HO.out.below hb); replace HB := hide (bel_next HB.out hb); clear hb) | (go_at_call 21; refine (HWM.out _).mono ?_; rintro e wo ⟨rfl, hw9⟩; have hw8 := hw9.symm; subst hw8; clear hw9))
                                generalize hwx2 : wn = wx at *
                                clear hwx2
                                have x0 := HX.out.cell 0 _ rfl
                                have y0 := HX.out.free 0
                                have x1 := HX.out.cell 1 _ rfl
                                have y1 := HX.out.free 1
                                have x2 := HX.out.cell 2 _ rfl
                                have y2 := HX.out.free 2
                                have x3 := HX.out.cell 3 _ rfl
                                have y3 := HX.out.free 3
                                go_upto_region 34 with fail
                                clear x0 y0 x1 y1 x2 y2 x3 y3
                                replace HX : Hid (BX (wx.setCell ⟨gX, 0, none⟩ (.int .i64 1)) gX #[.int .i64 1, .string ⟨#[]⟩, .int .i64 0, .int .i64 ln] 40) := HX.out.set 0 _
                                replace HO := hide (OK14.put HO.out HFR.out 0 (.int .i64 1))
                                replace HB := hide (HB.out.setCell (p := ⟨gX, 0, none⟩) hgx (.int .i64 1))
                                replace HX : Hid (BX ((wx.setCell ⟨gX, 0, none⟩ (.int .i64 1)).setCell ⟨gX, 1, none⟩ (.string sx)) gX #[.int .i64 1, .string sx, .int .i64 0, .int .i64 ln] 40) := HX.out.set 1 _
                                replace HO := hide (OK14.put HO.out HFR.out 1 (.string sx))
                                replace HB := hide (HB.out.setCell (p := ⟨gX, 1, none⟩) hgx (.string sx))
                                generalize hwt : ((wx.setCell ⟨gX, 0, none⟩ (.int .i64 1)).setCell ⟨gX, 1, none⟩ (.string sx)) = wt at *
                                clear hwt
                                have x0 := HX.out.cell 0 _ rfl
                                have y0 := HX.out.free 0
                                have x1 := HX.out.cell 1 _ rfl
                                have y1 := HX.out.free 1
                                have x2 := HX.out.cell 2 _ rfl
                                have y2 := HX.out.free 2
                                have x3 := HX.out.cell 3 _ rfl
                                have y3 := HX.out.free 3
                                have hb := bel1 wt (.cells #[.int .i64 1, .string sx, .int .i64 0, .int .i64 ln] 40)
                                have HB3 := hide (bel_next HB.out hb)
                                go_wp2_with (at_builtin; refine Stop.at ?_)
                                unfold Stop
                                refine append_rows rfl _ _ 35 rfl Tryd.underlying35 Tryd.infoTk rfl (by decide) (by decide) encTk_len encTk_one w.heap.size _ out [(1, sx, 0, ln)] rfl (HO.out.below hb) (some ⟨wt.heap.size, 0, none⟩) 1 1 rfl (fun h => by cases h) (RS.new encTk_len wt _ rfl [(1, sx, 0, ln)] _ rfl _ _ 1 rfl (by decide)) (by have h9 := hol; simp at h9 ⊢; omega) HB3.out.size ?_
                                intro v5 w5 ho5 hgr5 hbel5
                                have HB5 := hide (hbel5 _ HB3.out)
                                have HX5 : Hid (BX w5 gX #[.int .i64 1, .string sx, .int .i64 0, .int .i64 ln] 40) := (HX.out.below hb).grown hgr5 HFR.out
                                have O5 := hide ho5
                                obtain ⟨p5, c5, hv5, _, _⟩ := ho5.open encTk_len
                                subst hv5
                                rw [show (out ++ [((1, sx, 0, ln) : Tk)]).length = out.length + 1 by simp] at O5 ⊢
                                clear ho5 hgr5 hbel5 hb HB3 HO HB HX HFR
                                clear x0 y0 x1 y1 x2 y2 x3 y3
                                by_cases h8 : out.length + 1 ≤ 800
                                · have h81 : ¬ (800 : Int) < ((out.length + 1 : Nat) : Int) := by omega
                                  have HNX : Hid (lexS ((bytesL s).drop q) (ln) (out ++ [(1, sx, 0, ln)]) = lexS (bytesL s) 1 []) := by unfold Hid; rw [← HRS.out, lexS_word hwd _ _ _ HTK.out, HDR.out, push_ok h8]
                                  have hno : (out ++ [((1, sx, 0, ln) : Tk)]).length ≤ 800 := by simp; omega
                                  generalize hq : out.length + 1 = no at *
                                  clear hq
                                  go_wp2
                                  go_roundw
                                  case rel => exact ⟨q, ln, out ++ [(1, sx, 0, ln)], by omega, by go_num, by go_num, (by omega), (by omega), hno, O5, HNX, HB5⟩
                                  case measure => simp [intOf]; omega
                                · have h81 : (800 : Int) < ((out.length + 1 : Nat) : Int) := by omega
                                  have HER : Hid (lexS (bytesL s) 1 [] = .error (ln, 7)) := by unfold Hid; rw [← HRS.out, lexS_word hwd _ _ _ HTK.out, HDR.out, push_big (by omega)]
                                  generalize hq : out.length + 1 = no at *
                                  clear hq
                                  have x3 := HX5.out.cell 3 _ rfl
                                  go_upto_region 36 with fail
                                  go_region
                                  go_wp2
                                  go_ret3
                                  exact ⟨_, [], ln, 7, rfl, by rw [HER.out]; rfl, OwnR.nil _ _, HB5.out.drew⟩
                          · have HD2 := hide hd
                            have hwq : isWd d = true := by unfold isWd; rw [hd]; simp
                            have HF2 : Hid (∀ (k : Nat) x, i ≤ k → k < q + 1 → (bytesL s)[k]? = some x → isWd x = true) := fun k x hk1 hk2 hx => by
                              by_cases e : k = q
                              · subst e
                                rw [HAQ.out] at hx
                                cases hx
                                exact hwq
                              · exact HF.out k x hk1 (by omega) hx
                            clear hl hd
                            go_wp2_with (first | (go_at_call 25; refine (letter14 d _).mono ?_; rintro e wl ⟨rfl, hw9⟩; have hw8 := hw9.symm; subst hw8; clear hw9; rw [HL2.out]) | (go_at_call 26; refine (digit14 d _).mono ?_; rintro e wl ⟨rfl, hw9⟩; have hw8 := hw9.symm; subst hw8; clear hw9; rw [HD2.out]))
                            go_roundw
                            case rel => exact ⟨q + 1, by omega, by omega, by go_num, HF2, by trivial⟩
                            case measure => simp [intOf]; omega
                        · have HL2 := hide hl
                          have hwq : isWd d = true := by unfold isWd; rw [hl]; rfl
                          have HF2 : Hid (∀ (k : Nat) x, i ≤ k → k < q + 1 → (bytesL s)[k]? = some x → isWd x = true) := fun k x hk1 hk2 hx => by
                            by_cases e : k = q
                            · subst e
                              rw [HAQ.out] at hx
                              cases hx
                              exact hwq
                            · exact HF.out k x hk1 (by omega) hx
                          clear hl
                          go_wp2_with (go_at_call 25; refine (letter14 d _).mono ?_; rintro e wl ⟨rfl, hw9⟩; have hw8 := hw9.symm; subst hw8; clear hw9; rw [HL2.out])
                          go_roundw
                          case rel => exact ⟨q + 1, by omega, by omega, by go_num, HF2, by trivial⟩
                          case measure => simp [intOf]; omega
                      · have hq4 : ¬ (q : Int) < (n : Int) := by omega
                        go_upto_region 26 with fail
                        have HRN := hide (takeW_run (p := isWd) (l := bytesL s) (a := i) (i := q) (by omega) (by rw [bytesL_sz, HN.out]; exact hq2) HF.out (.inl (by rw [bytesL_sz, HN.out]; omega)))
                        have hws : 0 < 1 := by omega
                        have hsz : (s.extract i q).size ≤ 10000 := by rw [ByteArray.size_extract]; have := HN.out; omega
                        have HLX : Hid (bytesL (s.extract i q) = c :: ((bytesL s).drop (i + 1)).takeWhile isWd) := by
                          unfold Hid
                          rw [bytesL_cut s i q (by rw [HN.out]; exact hq2), ← HRN.out.1, drop_at HAT.out, List.takeWhile_cons, if_pos hwd]
                        have HDR : Hid (((bytesL s).drop (i + 1)).dropWhile isWd = (bytesL s).drop q) := by
                          have z := HRN.out.2
                          rw [drop_at HAT.out, List.dropWhile_cons, if_pos hwd] at z
                          exact z
                        have HSB : Hid (strOfNums (bytesL (s.extract i q)) = s.extract i q) := str_by14 _
                        have HNM0 := hide (fun W => Number14 (s.extract i q) W hsz)
                        have HWM0 := hide (fun W => Word14 (s.extract i q) W hsz)
                        have hiq1 : (i : Int) ≤ (q : Int) := by omega
                        have hiq2 : (q : Int) ≤ (n : Int) := by omega
                        have hiq3 : i ≤ q := by omega
                        have hiq4 : q ≤ n := by omega
                        obtain ⟨sx, hsx⟩ : ∃ x, s.extract i q = x := ⟨_, rfl⟩
                        rw [hsx] at HLX HSB HNM0 HWM0
                        clear hsz HRN HF
                        rcases hwb : wordB (bytesL sx) with _ | _
                        · rcases hnb : numB (bytesL sx) with _ | _
                          · have HER : Hid (lexS (bytesL s) 1 [] = .error (ln, 2)) := by unfold Hid; rw [← HRS.out]; exact lexS_none hwd _ _ _ (by rw [← HLX.out]; unfold tokW; rw [hwb, hnb]; rfl)
                            rw [hnb] at HNM0
                            rw [hwb] at HWM0
                            have HNM := HNM0
                            have HWM := HWM0
                            generalize valN (bytesL sx) = z at *
                            clear hwb hnb HNM0 HWM0
                            go_upto_region 33 with (first | (go_at_call 27; refine (HNM.out _).mono ?_; rintro e wn ⟨rfl, hb⟩; replace HX := hide (HX.out.below hb); replace HO := hide (HO.out.below hb); replace HB := hide (bel_next HB.out hb); clear hb) | (go_at_call 21; refine (HWM.out _).mono ?_; rintro e wo ⟨rfl, hw9⟩; have hw8 := hw9.symm; subst hw8; clear hw9))
                            have x3 := HX.out.cell 3 _ rfl
                            go_region
                            go_wp2
                            go_ret3
                            exact ⟨_, [], ln, 2, rfl, by rw [HER.out]; rfl, OwnR.nil _ _, HB.out.drew⟩
                          · have HTK : Hid (tokW (c :: ((bytesL s).drop (i + 1)).takeWhile isWd) ln = some (2, ⟨#[]⟩, valN (bytesL sx), ln)) := by unfold Hid; rw [← HLX.out]; unfold tokW; rw [hwb, hnb]; rfl
                            rw [hnb] at HNM0
                            rw [hwb] at HWM0
                            have HNM := HNM0
                            have HWM := HWM0
                            generalize valN (bytesL sx) = z at *
                            clear hwb hnb HNM0 HWM0
                            go_upto_region 31 with (first | (go_at_call 27; refine (HNM.out _).mono ?_; rintro e wn ⟨rfl, hb⟩; replace HX := hide (HX.out.below hb); replace HO := hide (HO.out.below hb); replace HB := hide (bel_next HB.out hb); clear hb) | (go_at_call 21; refine (HWM.out _).mono ?_; rintro e wo ⟨rfl, hw9⟩; have hw8 := hw9.symm; subst hw8; clear hw9))
                            generalize hwx2 : wn = wx at *
                            clear hwx2
                            have x0 := HX.out.cell 0 _ rfl
                            have y0 := HX.out.free 0
                            have x1 := HX.out.cell 1 _ rfl
                            have y1 := HX.out.free 1
                            have x2 := HX.out.cell 2 _ rfl
                            have y2 := HX.out.free 2
                            have x3 := HX.out.cell 3 _ rfl
                            have y3 := HX.out.free 3
                            go_upto_region 34 with fail
                            clear x0 y0 x1 y1 x2 y2 x3 y3
                            replace HX : Hid (BX (wx.setCell ⟨gX, 0, none⟩ (.int .i64 2)) gX #[.int .i64 2, .string ⟨#[]⟩, .int .i64 0, .int .i64 ln] 40) := HX.out.set 0 _
                            replace HO := hide (OK14.put HO.out HFR.out 0 (.int .i64 2))
                            replace HB := hide (HB.out.setCell (p := ⟨gX, 0, none⟩) hgx (.int .i64 2))
                            replace HX : Hid (BX ((wx.setCell ⟨gX, 0, none⟩ (.int .i64 2)).setCell ⟨gX, 2, none⟩ (.int .i64 z)) gX #[.int .i64 2, .string ⟨#[]⟩, .int .i64 z, .int .i64 ln] 40) := HX.out.set 2 _
                            replace HO := hide (OK14.put HO.out HFR.out 2 (.int .i64 z))
                            replace HB := hide (HB.out.setCell (p := ⟨gX, 2, none⟩) hgx (.int .i64 z))
                            generalize hwt : ((wx.setCell ⟨gX, 0, none⟩ (.int .i64 2)).setCell ⟨gX, 2, none⟩ (.int .i64 z)) = wt at *
                            clear hwt
                            have x0 := HX.out.cell 0 _ rfl
                            have y0 := HX.out.free 0
                            have x1 := HX.out.cell 1 _ rfl
                            have y1 := HX.out.free 1
                            have x2 := HX.out.cell 2 _ rfl
                            have y2 := HX.out.free 2
                            have x3 := HX.out.cell 3 _ rfl
                            have y3 := HX.out.free 3
                            have hb := bel1 wt (.cells #[.int .i64 2, .string ⟨#[]⟩, .int .i64 z, .int .i64 ln] 40)
                            have HB3 := hide (bel_next HB.out hb)
                            go_wp2_with (at_builtin; refine Stop.at ?_)
                            unfold Stop
                            refine append_rows rfl _ _ 35 rfl Tryd.underlying35 Tryd.infoTk rfl (by decide) (by decide) encTk_len encTk_one w.heap.size _ out [(2, ⟨#[]⟩, z, ln)] rfl (HO.out.below hb) (some ⟨wt.heap.size, 0, none⟩) 1 1 rfl (fun h => by cases h) (RS.new encTk_len wt _ rfl [(2, ⟨#[]⟩, z, ln)] _ rfl _ _ 1 rfl (by decide)) (by have h9 := hol; simp at h9 ⊢; omega) HB3.out.size ?_
                            intro v5 w5 ho5 hgr5 hbel5
                            have HB5 := hide (hbel5 _ HB3.out)
                            have HX5 : Hid (BX w5 gX #[.int .i64 2, .string ⟨#[]⟩, .int .i64 z, .int .i64 ln] 40) := (HX.out.below hb).grown hgr5 HFR.out
                            have O5 := hide ho5
                            obtain ⟨p5, c5, hv5, _, _⟩ := ho5.open encTk_len
                            subst hv5
                            rw [show (out ++ [((2, ⟨#[]⟩, z, ln) : Tk)]).length = out.length + 1 by simp] at O5 ⊢
                            clear ho5 hgr5 hbel5 hb HB3 HO HB HX HFR
                            clear x0 y0 x1 y1 x2 y2 x3 y3
                            by_cases h8 : out.length + 1 ≤ 800
                            · have h81 : ¬ (800 : Int) < ((out.length + 1 : Nat) : Int) := by omega
                              have HNX : Hid (lexS ((bytesL s).drop q) (ln) (out ++ [(2, ⟨#[]⟩, z, ln)]) = lexS (bytesL s) 1 []) := by unfold Hid; rw [← HRS.out, lexS_word hwd _ _ _ HTK.out, HDR.out, push_ok h8]
                              have hno : (out ++ [((2, ⟨#[]⟩, z, ln) : Tk)]).length ≤ 800 := by simp; omega
                              generalize hq : out.length + 1 = no at *
                              clear hq
                              go_wp2
                              go_roundw
                              case rel => exact ⟨q, ln, out ++ [(2, ⟨#[]⟩, z, ln)], by omega, by go_num, by go_num, (by omega), (by omega), hno, O5, HNX, HB5⟩
                              case measure => simp [intOf]; omega
                            · have h81 : (800 : Int) < ((out.length + 1 : Nat) : Int) := by omega
                              have HER : Hid (lexS (bytesL s) 1 [] = .error (ln, 7)) := by unfold Hid; rw [← HRS.out, lexS_word hwd _ _ _ HTK.out, HDR.out, push_big (by omega)]
                              generalize hq : out.length + 1 = no at *
                              clear hq
                              have x3 := HX5.out.cell 3 _ rfl
                              go_upto_region 36 with fail
                              go_region
                              go_wp2
                              go_ret3
                              exact ⟨_, [], ln, 7, rfl, by rw [HER.out]; rfl, OwnR.nil _ _, HB5.out.drew⟩
                        · have HTK : Hid (tokW (c :: ((bytesL s).drop (i + 1)).takeWhile isWd) ln = some (1, sx, 0, ln)) := by unfold Hid; rw [← HLX.out]; unfold tokW; rw [hwb, HSB.out]; rfl
                          rw [hwb] at HWM0
                          have HNM := HNM0
                          have HWM := HWM0
                          generalize valN (bytesL sx) = z at *
                          generalize numB (bytesL sx) = nb at *
                          clear hwb HNM0 HWM0
                          go_upto_region 28 with (first | (go_at_call 27; refine (HNM.out _).mono ?_; rintro e wn ⟨rfl, hb⟩; replace HX := hide (HX.out.below hb); replace HO := hide (HO.out.below hb); replace HB := hide (bel_next HB.out hb); clear hb) | (go_at_call 21; refine (HWM.out _).mono ?_; rintro e wo ⟨rfl, hw9⟩; have hw8 := hw9.symm; subst hw8; clear hw9))
                          generalize hwx2 : wn = wx at *
                          clear hwx2
                          have x0 := HX.out.cell 0 _ rfl
                          have y0 := HX.out.free 0
                          have x1 := HX.out.cell 1 _ rfl
                          have y1 := HX.out.free 1
                          have x2 := HX.out.cell 2 _ rfl
                          have y2 := HX.out.free 2
                          have x3 := HX.out.cell 3 _ rfl
                          have y3 := HX.out.free 3
                          go_upto_region 34 with fail
                          clear x0 y0 x1 y1 x2 y2 x3 y3
                          replace HX : Hid (BX (wx.setCell ⟨gX, 0, none⟩ (.int .i64 1)) gX #[.int .i64 1, .string ⟨#[]⟩, .int .i64 0, .int .i64 ln] 40) := HX.out.set 0 _
                          replace HO := hide (OK14.put HO.out HFR.out 0 (.int .i64 1))
                          replace HB := hide (HB.out.setCell (p := ⟨gX, 0, none⟩) hgx (.int .i64 1))
                          replace HX : Hid (BX ((wx.setCell ⟨gX, 0, none⟩ (.int .i64 1)).setCell ⟨gX, 1, none⟩ (.string sx)) gX #[.int .i64 1, .string sx, .int .i64 0, .int .i64 ln] 40) := HX.out.set 1 _
                          replace HO := hide (OK14.put HO.out HFR.out 1 (.string sx))
                          replace HB := hide (HB.out.setCell (p := ⟨gX, 1, none⟩) hgx (.string sx))
                          generalize hwt : ((wx.setCell ⟨gX, 0, none⟩ (.int .i64 1)).setCell ⟨gX, 1, none⟩ (.string sx)) = wt at *
                          clear hwt
                          have x0 := HX.out.cell 0 _ rfl
                          have y0 := HX.out.free 0
                          have x1 := HX.out.cell 1 _ rfl
                          have y1 := HX.out.free 1
                          have x2 := HX.out.cell 2 _ rfl
                          have y2 := HX.out.free 2
                          have x3 := HX.out.cell 3 _ rfl
                          have y3 := HX.out.free 3
                          have hb := bel1 wt (.cells #[.int .i64 1, .string sx, .int .i64 0, .int .i64 ln] 40)
                          have HB3 := hide (bel_next HB.out hb)
                          go_wp2_with (at_builtin; refine Stop.at ?_)
                          unfold Stop
                          refine append_rows rfl _ _ 35 rfl Tryd.underlying35 Tryd.infoTk rfl (by decide) (by decide) encTk_len encTk_one w.heap.size _ out [(1, sx, 0, ln)] rfl (HO.out.below hb) (some ⟨wt.heap.size, 0, none⟩) 1 1 rfl (fun h => by cases h) (RS.new encTk_len wt _ rfl [(1, sx, 0, ln)] _ rfl _ _ 1 rfl (by decide)) (by have h9 := hol; simp at h9 ⊢; omega) HB3.out.size ?_
                          intro v5 w5 ho5 hgr5 hbel5
                          have HB5 := hide (hbel5 _ HB3.out)
                          have HX5 : Hid (BX w5 gX #[.int .i64 1, .string sx, .int .i64 0, .int .i64 ln] 40) := (HX.out.below hb).grown hgr5 HFR.out
                          have O5 := hide ho5
                          obtain ⟨p5, c5, hv5, _, _⟩ := ho5.open encTk_len
                          subst hv5
                          rw [show (out ++ [((1, sx, 0, ln) : Tk)]).length = out.length + 1 by simp] at O5 ⊢
                          clear ho5 hgr5 hbel5 hb HB3 HO HB HX HFR
                          clear x0 y0 x1 y1 x2 y2 x3 y3
                          by_cases h8 : out.length + 1 ≤ 800
                          · have h81 : ¬ (800 : Int) < ((out.length + 1 : Nat) : Int) := by omega
                            have HNX : Hid (lexS ((bytesL s).drop q) (ln) (out ++ [(1, sx, 0, ln)]) = lexS (bytesL s) 1 []) := by unfold Hid; rw [← HRS.out, lexS_word hwd _ _ _ HTK.out, HDR.out, push_ok h8]
                            have hno : (out ++ [((1, sx, 0, ln) : Tk)]).length ≤ 800 := by simp; omega
                            generalize hq : out.length + 1 = no at *
                            clear hq
                            go_wp2
                            go_roundw
                            case rel => exact ⟨q, ln, out ++ [(1, sx, 0, ln)], by omega, by go_num, by go_num, (by omega), (by omega), hno, O5, HNX, HB5⟩
                            case measure => simp [intOf]; omega
                          · have h81 : (800 : Int) < ((out.length + 1 : Nat) : Int) := by omega
                            have HER : Hid (lexS (bytesL s) 1 [] = .error (ln, 7)) := by unfold Hid; rw [← HRS.out, lexS_word hwd _ _ _ HTK.out, HDR.out, push_big (by omega)]
                            generalize hq : out.length + 1 = no at *
                            clear hq
                            have x3 := HX5.out.cell 3 _ rfl
                            go_upto_region 36 with fail
                            go_region
                            go_wp2
                            go_ret3
                            exact ⟨_, [], ln, 7, rfl, by rw [HER.out]; rfl, OwnR.nil _ _, HB5.out.drew⟩
    · obtain rfl : n = i := by omega
      have hi1 : ¬ (n : Int) < (n : Int) := by omega
      have HFI : Hid (lexS (bytesL s) 1 [] = .ok (ln, out)) := by
        unfold Hid
        rw [← HRS.out, List.drop_eq_nil_of_le (by rw [bytesL_sz, HN.out]; exact Nat.le_refl _)]
        rfl
      have hb := bel1 wr (.cells #[.int .i64 0, .string ⟨#[]⟩, .int .i64 0, .int .i64 ln] 40)
      have HB3 := hide (bel_next HB.out hb)
      clear HRS
      go_wp2_with (at_builtin; refine Stop.at ?_)
      unfold Stop
      refine append_rows rfl _ _ 35 rfl Tryd.underlying35 Tryd.infoTk rfl (by decide) (by decide) encTk_len encTk_one w.heap.size _ out [(0, ⟨#[]⟩, 0, ln)] rfl (HO.out.below hb) (some ⟨wr.heap.size, 0, none⟩) 1 1 rfl (fun h => by cases h) (RS.new encTk_len wr _ rfl [(0, ⟨#[]⟩, 0, ln)] _ rfl _ _ 1 rfl (by decide)) (by have h9 := hol; simp at h9 ⊢; omega) HB3.out.size ?_
      intro v5 w5 ho5 hgr5 hbel5
      have HB5 := hide (hbel5 _ HB3.out)
      have O5 := hide ho5
      obtain ⟨p5, c5, hv5, _, _⟩ := ho5.open encTk_len
      subst hv5
      rw [show (out ++ [((0, ⟨#[]⟩, 0, ln) : Tk)]).length = out.length + 1 by simp] at O5 ⊢
      clear ho5 hgr5 hbel5 hb HB3 HO HB
      by_cases h8 : out.length + 1 ≤ 800
      · have h81 : ¬ (800 : Int) < ((out.length + 1 : Nat) : Int) := by omega
        have HFN : Hid (finL (lexS (bytesL s) 1 []) = (out ++ [(0, ⟨#[]⟩, 0, ln)], 0, 0)) := by unfold Hid; rw [HFI.out]; show (if 800 < out.length + 1 then (([], ln, 7) : List Tk × Int × Int) else _) = _; rw [if_neg (by omega)]
        generalize hq : out.length + 1 = no at *
        clear hq
        go_wp2
        go_ret3
        exact ⟨_, _, _, _, rfl, HFN.out, O5.out, HB5.out⟩
      · have h81 : (800 : Int) < ((out.length + 1 : Nat) : Int) := by omega
        have HFN : Hid (finL (lexS (bytesL s) 1 []) = ([], ln, 7)) := by unfold Hid; rw [HFI.out]; show (if 800 < out.length + 1 then (([], ln, 7) : List Tk × Int × Int) else _) = _; rw [if_pos (by omega)]
        generalize hq : out.length + 1 = no at *
        clear hq
        go_wp2
        go_ret3
        exact ⟨_, _, _, _, rfl, HFN.out, OwnR.nil _ _, HB5.out⟩
end Go.Proofs.YtadmibfnjhockaaDoor
