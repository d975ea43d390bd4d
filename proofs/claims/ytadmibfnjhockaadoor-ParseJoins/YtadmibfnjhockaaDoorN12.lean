/- Layer 15: a rule is told; whether a text has letters and digits alone. -/
import Derived.Test.YtadmibfnjhockaaDoorNP
import Derived.Test.YtadmibfnjhockaaDoorN9
namespace Go.Proofs.YtadmibfnjhockaaDoor
open Go.RowKit Go.Lib Go.WideShapes Go.ChangeShapes
set_option linter.unusedVariables false
/-- A text that came in. -/
def InS15 (w : World) (v : Value) : Prop := ∃ t, v = .string t
set_option maxRecDepth 100000 in
theorem in_str15 {H : Type} {enc : TypeId × Value → H} {W : World} {v : Value} {d : DataW H} {p : List MemPlace} {base : Nat} (hok : Value.okWide Tryd.prog W .any base 9 v) (h : DataW.Trod enc Tryd.prog W 0 (fun _ => true) true 9 v d p) (hw : ∀ n ∈ d.weights Tryd.prog 9, n ≤ reachBytes) : InS15 W v := by
  obtain ⟨s, hs⟩ := okWide_string Tryd.underlying9 hok
  exact ⟨s, hs⟩
def ruleAB : ByteArray := ⟨#[114, 117, 108, 101, 32, 115, 116, 114, 105, 99, 116, 32, 114, 101, 102, 32, 97, 32, 98]⟩
theorem ruleAB_lin : linG (bytesL ruleAB) = ([(4, true, ⟨#[97]⟩, ⟨#[98]⟩, 0, [], 1)], 0, 0) := by
  have q := (one15 (a := ⟨#[97]⟩) (b := ⟨#[98]⟩) (j := 3) (by decide) ⟨by decide, by decide⟩ ⟨by decide, by decide⟩ (by decide) (by decide)).1 (by decide) (by decide)
  exact linG_ok q
set_option maxHeartbeats 4000000 in
set_option maxRecDepth 2000 in
theorem awake15 (w : World) (hv : LV w) : Calls Tryd.prog 6 #[] w fun e w' => e = .returned (.bool true) ∧ Below w.heap.size w w' := by
  have HR := hide (fun W (hW : LV W) => LinesP15 ruleAB W (by decide) hW)
  have HKP := hide (fun W => KeptQ15 ⟨#[114, 117, 108, 101]⟩ W)
  have HKT : Hid (keptB ⟨#[114, 117, 108, 101]⟩ = true) := by unfold Hid; decide
  rw [HKT.out] at HKP
  have HV := hide hv
  clear hv
  go_enter Tryd.func6, Tryd.ntmps6
  go_upto_region 2 with (go_at_call 7; refine (HR.out _ HV.out).mono ?_; rintro e w1 ⟨v, ds, x, e0, rfl, hl, ho, hb⟩; have HL := hide hl; have HO := hide ho; have HB := hide hb; clear hl ho hb)
  obtain ⟨rfl, rfl, rfl⟩ : ds = [(4, true, ⟨#[97]⟩, ⟨#[98]⟩, 0, [], 1)] ∧ x = 0 ∧ e0 = 0 := by
    have q := HL.out
    rw [ruleAB_lin] at q
    cases q
    exact ⟨rfl, rfl, rfl⟩
  obtain ⟨p, c, rfl, hsf, hcp⟩ := HO.out.open
  obtain ⟨b, off, rfl⟩ := hsf.addr (by decide)
  obtain ⟨d, p', c', hx, _, _, c0, c1, c2, c3, _⟩ := hsf.dc 0 (by decide)
  cases hx
  simp only [Nat.zero_mul, Nat.add_zero, List.length_singleton] at c0 c1 c2 c3 ⊢
  have q1 := eqK ⟨#[97]⟩ ⟨#[97]⟩
  rw [decide_eq_true rfl] at q1
  clear HL HO hsf hcp
  go_wp2_with (go_at_call 10; refine (HKP.out _).mono ?_; rintro e w2 ⟨rfl, hb⟩; replace HB := hide (bel_next HB.out hb); clear hb)
  go_ret
  exact ⟨rfl, HB.out⟩
/-- Letters and digits alone. -/
def plainT (l : List Int) : Bool := l.all (fun c => isLt c || isDg c)
theorem plainT_wd {l : List Int} (h : plainT l = true) : ∀ c ∈ l, isWd c = true := fun c hc => by
  have q := List.all_eq_true.1 h c hc
  unfold isWd
  rw [q]
  rfl
theorem name_wd {a : ByteArray} (h : nameB a = true) : (∀ c ∈ bytesL a, isWd c = true) ∧ bytesL a ≠ [] := by
  unfold nameB at h
  rw [Bool.and_eq_true] at h
  have q := h.1
  generalize bytesL a = l at q
  cases l with
  | nil => cases q
  | cons c t =>
    have q2 : (isLt c && t.all (fun x => isLt x || isDg x) && decide (t.length < 16)) = true := q
    rw [Bool.and_eq_true, Bool.and_eq_true] at q2
    refine ⟨fun x hx => ?_, fun e => by cases e⟩
    rcases List.mem_cons.1 hx with rfl | hx
    · unfold isWd
      rw [q2.1.1]
      rfl
    · have q3 := List.all_eq_true.1 q2.1.2 x hx
      unfold isWd
      rw [q3]
      rfl
set_option maxHeartbeats 4000000 in
theorem plainQ15 (s : ByteArray) (w : World) (hs : s.size ≤ 10000) : Calls Tryd.prog 13 #[.string s] w fun e w' => e = .returned (.bool (plainT (bytesL s))) ∧ w' = w := by
  obtain ⟨n, hn⟩ : ∃ n, s.size = n := ⟨_, rfl⟩
  have HN := hide hn
  go_enter Tryd.func13, Tryd.ntmps13
  go_wp2
  go_loopw [3] (fun v wr => ∃ i : Nat, i ≤ n ∧ v = .int .i64 i ∧ Hid (plainT ((bytesL s).take i) = true) ∧ wr = w) (fun v _ => n - (RowKit.intOf v).toNat)
  case atStart => exact ⟨0, by omega, rfl, rfl, rfl⟩
  case round =>
    obtain ⟨i, hi, rfl, HF, hww⟩ := hrel
    have hww2 := hww.symm
    subst hww2
    clear hww
    by_cases hlt : i < n
    · have hi0 : (0 : Int) ≤ (i : Int) := by omega
      have hi1 : (i : Int) < (n : Int) := by omega
      have hat := bytesL_at (s := s) (i := i) (by rw [hn]; exact hlt)
      have hix : ∀ h : i < s.size, ((s[i]'h).toNat : Int) = byS s i := fun h => byS_is h
      have hbd := byS_bd s i
      have hstep : plainT ((bytesL s).take (i + 1)) = (isLt (byS s i) || isDg (byS s i)) := by
        unfold plainT at HF ⊢
        rw [List.take_add_one, List.all_append, HF.out, hat]
        simp
      have hfar : (isLt (byS s i) || isDg (byS s i)) = false → plainT (bytesL s) = false := fun h => by
        unfold plainT
        rw [List.all_eq_false]
        exact ⟨_, List.mem_of_getElem? hat, by rw [h]; decide⟩
      generalize byS s i = c at *
      by_cases h1 : 97 ≤ c ∧ c ≤ 122
      · have HF2 : Hid (plainT ((bytesL s).take (i + 1)) = true) := by unfold Hid; rw [hstep]; unfold isLt; rw [decide_eq_true h1]; rfl
        obtain ⟨h2, h3⟩ := h1
        clear hstep hfar hat
        go_wp2
        go_roundw
        case rel => exact ⟨i + 1, by omega, by go_num, HF2, by trivial⟩
        case measure => simp [RowKit.intOf]; omega
      · by_cases h4 : 48 ≤ c ∧ c ≤ 57
        · have HF2 : Hid (plainT ((bytesL s).take (i + 1)) = true) := by unfold Hid; rw [hstep]; unfold isDg; rw [decide_eq_true h4]; simp
          obtain ⟨h2, h3⟩ := h4
          have h5 : ¬ 97 ≤ c := by omega
          clear hstep hfar hat h1
          go_wp2
          go_roundw
          case rel => exact ⟨i + 1, by omega, by go_num, HF2, by trivial⟩
          case measure => simp [RowKit.intOf]; omega
        · have HF2 : Hid (plainT (bytesL s) = false) := hfar (by unfold isLt isDg; rw [decide_eq_false h1, decide_eq_false h4]; rfl)
          clear hstep hfar hat
          by_cases h2 : 97 ≤ c
          · have h3 : ¬ c ≤ 122 := by omega
            have h5 : ¬ c ≤ 57 := by omega
            have h6 : 48 ≤ c := by omega
            clear h1 h4
            go_wp2
            go_ret
            exact ⟨by rw [HF2.out]; rfl, rfl⟩
          · by_cases h3 : 48 ≤ c
            · have h5 : ¬ c ≤ 57 := by omega
              clear h1 h4
              go_wp2
              go_ret
              exact ⟨by rw [HF2.out]; rfl, rfl⟩
            · clear h1 h4
              go_wp2
              go_ret
              exact ⟨by rw [HF2.out]; rfl, rfl⟩
    · obtain rfl : i = n := by omega
      have HF2 : Hid (plainT (bytesL s) = true) := by
        have q := HF.out
        rw [List.take_of_length_le (by rw [bytesL_sz]; omega)] at q
        exact q
      go_wp2
      go_ret
      exact ⟨by rw [HF2.out]; rfl, rfl⟩
theorem bytesL_ne {a : ByteArray} (h : a ≠ ⟨#[]⟩) : bytesL a ≠ [] := fun e => h (by
  have q := congrArg List.length e
  have q2 : a.size = 0 := by rw [bytesL_sz] at q; exact q
  obtain ⟨⟨l⟩⟩ := a
  cases l with
  | nil => rfl
  | cons c t => cases q2)
/-- Why a line of two words is none. -/
def HBad (a b : ByteArray) (n m : Nat) (e0 : Int) : Prop := ¬ e0 = 0 ∨ (e0 = 0 ∧ a = ⟨#[]⟩) ∨ (e0 = 0 ∧ ¬ a = ⟨#[]⟩ ∧ b = ⟨#[]⟩) ∨ (e0 = 0 ∧ ¬ a = ⟨#[]⟩ ∧ ¬ b = ⟨#[]⟩ ∧ (16 : Int) < (n : Int)) ∨ (e0 = 0 ∧ ¬ a = ⟨#[]⟩ ∧ ¬ b = ⟨#[]⟩ ∧ ¬ (16 : Int) < (n : Int) ∧ (16 : Int) < (m : Int)) ∨ (e0 = 0 ∧ ¬ a = ⟨#[]⟩ ∧ ¬ b = ⟨#[]⟩ ∧ ¬ (16 : Int) < (n : Int) ∧ ¬ (16 : Int) < (m : Int) ∧ plainT (bytesL a) = false) ∨ (e0 = 0 ∧ ¬ a = ⟨#[]⟩ ∧ ¬ b = ⟨#[]⟩ ∧ ¬ (16 : Int) < (n : Int) ∧ ¬ (16 : Int) < (m : Int) ∧ plainT (bytesL a) = true ∧ plainT (bytesL b) = false)
section
variable {α : Type}
theorem flat_set (enc : α → List Value) (k : Nat) (hk : ∀ x, (enc x).length = k) (j : Nat) (hj : j < k) (u : Value) (x x' : α) (he : enc x' = (enc x).set j u) : ∀ (l : List α) (i : Nat), l[i]? = some x → (l.flatMap enc).set (i * k + j) u = (l.set i x').flatMap enc
  | [], i, h => by simp at h
  | c :: t, 0, h => by
    have e : c = x := by simpa using h
    subst e
    rw [List.set_cons_zero, List.flatMap_cons, List.flatMap_cons, he, Nat.zero_mul, Nat.zero_add, List.set_append_left _ _ (by rw [hk]; exact hj)]
  | c :: t, i + 1, h => by
    have h2 : t[i]? = some x := by simpa using h
    rw [List.set_cons_succ, List.flatMap_cons, List.flatMap_cons, List.set_append_right _ _ (by rw [hk, Nat.succ_mul]; omega), hk, ← flat_set enc k hk j hj u x x' he t i h2]
    rw [show (i + 1) * k + j - k = i * k + j by rw [Nat.succ_mul]; omega]
variable {k : Nat} {R : Rf α} {T : TypeId}
theorem OwnF.lt {N : Nat} {w : World} {v : Value} {l : List α} (h : OwnF k R T N w v l) {g : Nat} (hg : v.ownBlock = some g) : N ≤ g ∧ g < w.heap.size := by
  obtain ⟨rows, h1, _⟩ := h
  obtain ⟨q, C, fr, hc⟩ := h1.at hg
  exact ⟨q, (Array.getElem?_eq_some_iff.1 hc).1⟩
/-- Such rows keep when others of their kind are written. -/
theorem OwnF.other (hR : StF R) {N N' : Nat} {w w' : World} {v v' : Value} {l m : List α} (h : OwnF k R T N w v l) (h' : OwnF k R T N' w v' m) {g : Nat} (hv : v'.ownBlock = some g) (hne : v.ownBlock ≠ some g) (hg : w.grownBy w' (some g)) : OwnF k R T N w' v l := by
  obtain ⟨rows, h1, h2, h3⟩ := h
  obtain ⟨rows', k1, _⟩ := h'
  refine ⟨rows, ?_, h2, fun i r x hr hx => ?_⟩
  · refine ⟨h1.1, ?_⟩
    rcases h1.2 with hn | ⟨g', cap, cur, rfl, hb', hgg, rest⟩
    · exact .inl hn
    · refine .inr ⟨g', cap, cur, rfl, hb', ?_, rest⟩
      rw [hg.block g' (Array.getElem?_eq_some_iff.1 hgg).1 (fun e => hne (by rw [← e]; rfl))]
      exact hgg
  · obtain ⟨F, hF, hf⟩ := h3 i r x hr hx
    have hk := k1.others (hv ▸ hg) (hf.mono N') (hR.2 _ _ _ _ hF)
    exact ⟨F, hR.1 _ _ _ _ _ hF hk, hf.keep hk⟩
/-- A cell of a row is written. -/
theorem OwnF.put (hR : StF R) {N : Nat} {w : World} {g n cap : Nat} {l : List α} (h : OwnF k R T N w (.slice (some ⟨g, 0, none⟩) n cap) l) (i j : Nat) (u : Value) (hu : u.oneCell' = true) (hj : j < k) (x x' : α) (hx : l[i]? = some x) (hq : ∀ W r F, R W r x F → R W (r.set j u) x' F) : OwnF k R T N (w.setCell ⟨g, i * k + j, none⟩ u) (.slice (some ⟨g, 0, none⟩) n cap) (l.set i x') ∧ w.grownBy (w.setCell ⟨g, i * k + j, none⟩ u) (some g) := by
  obtain ⟨rows, h1, h2, h3⟩ := h
  have hir : i < rows.length := by rw [h2]; exact (List.getElem?_eq_some_iff.1 hx).1
  obtain ⟨r, hr⟩ : ∃ r, rows[i]? = some r := ⟨_, List.getElem?_eq_getElem hir⟩
  have hn : n = rows.length := by
    obtain ⟨p, c, hv, _⟩ := h1.open rv_len
    cases hv
    rfl
  have hv' : (Value.slice (some ⟨g, 0, none⟩) n cap).ownBlock = some g := rfl
  subst hn
  have h1' : w.ownsRow N T k (.slice (some ⟨g, 0, none⟩) rows.length cap) rows.length (rows.flatMap rv) := h1
  have s := h1'.stored (i * k + j) u
  let r' : Row k := ⟨r.1.set j u, by rw [List.length_set]; exact r.2.1, fun v hv => by
    rcases List.mem_or_eq_of_mem_set hv with q | q
    · exact r.2.2 v q
    · rw [q]; exact hu⟩
  have e : (rows.flatMap rv).set (i * k + j) u = (rows.set i r').flatMap rv := flat_set rv k rv_len j hj u r r' rfl rows i hr
  have keep : ∀ r x F, R w r x F → Fok 0 T w F → R (w.setCell ⟨g, i * k + j, none⟩ u) r x F ∧ Fok 0 T (w.setCell ⟨g, i * k + j, none⟩ u) F := fun r x F hF hf => by
    have hk := h1.others (hv' ▸ s.2) (hf.mono N) (hR.2 _ _ _ _ hF)
    exact ⟨hR.1 _ _ _ _ _ hF hk, hf.keep hk⟩
  refine ⟨⟨rows.set i r', ?_, by rw [List.length_set, List.length_set, h2], fun i2 r2 x2 hr2 hx2 => ?_⟩, s.2⟩
  · show World.ownsRow _ N T k _ (rows.set i r').length ((rows.set i r').flatMap rv)
    rw [List.length_set, ← e]
    exact s.1
  · by_cases hi : i = i2
    · subst hi
      rw [List.getElem?_set_self hir] at hr2
      rw [List.getElem?_set_self (by rw [← h2]; exact hir)] at hx2
      cases hr2
      cases hx2
      obtain ⟨F, hF, hf⟩ := h3 i r x hr hx
      obtain ⟨q1, q2⟩ := keep _ _ _ hF hf
      exact ⟨F, hq _ _ _ q1, q2⟩
    · rw [List.getElem?_set_ne hi] at hr2 hx2
      obtain ⟨F, hF, hf⟩ := h3 i2 r2 x2 hr2 hx2
      exact ⟨F, keep _ _ _ hF hf⟩
/-- 'append(v, y...)' of whole rows. -/
theorem append_fl (hR : StF R) {w : World} {ops : Array Oper} {rest : List Oper} {o : Oper} {a : Act} {Q : Exit → Act → World → Prop} (hgd : o.guard = none) (s x : Operand) (t : TypeId)
    (ho : o.op = .call { callee := .builtin .append, args := #[s, x], argTypes := #[t, t] })
    (ht : Tryd.prog.underlying t = some (.slice T)) {z : Value} {by_ : Nat} (hi : (Tryd.prog.info? T).map (fun i => (i.zero, i.size, i.bytes)) = some (some z, k, by_)) (hz : z.cells.size = k) (hk0 : 0 < k) (hby : by_ ≤ 1000)
    (N N' : Nat) (v vx : Value) (l m : List α) (hs : a.eval s = v) (hown : OwnF k R T N w v l) (hx : a.eval x = vx) (hm : OwnF k R T N' w vx m)
    (hbig : l.length + m.length ≤ 1000000) (hN : N ≤ w.heap.size)
    (h : ∀ v' w', OwnF k R T N w' v' (l ++ m) → w.grownBy w' v.ownBlock → (∀ w0, Below N w0 w → Below N w0 w') → wpList Tryd.prog ops Q rest (a.put o.dst v') w') : wpList Tryd.prog ops Q (o :: rest) a w := by
  obtain ⟨rows, h1, h2, h3⟩ := hown
  obtain ⟨rows', k1, k2, k3⟩ := hm
  obtain ⟨p, c, rfl, k4, k5⟩ := k1.open rv_len
  refine append_rows hgd s x t ho ht hi hz hk0 hby rv_len rv_one N v rows rows' hs h1 p rows'.length c hx k5.2.2 k4 (by rw [h2, k2]; exact hbig) hN ?_
  intro v' w' ho' hg hb
  exact h v' w' (OwnF.app hR h1 h2 h3 k2 k3 hg ho') hg hb
end
theorem linB_len {l : List Int} (hl : l.length ≤ 4096) {X : List Dc} {x : Int} (h : linB l = (X, x, 0)) : X.length ≤ 60 := by
  obtain ⟨ln, A, h1, h2, h3⟩ := linB_ok hl h
  exact linP_len _ _ _ _ h3 (Nat.zero_le _)
/-- What is behind an own row is a block's beginning. -/
theorem OwnF.base {α : Type} {k : Nat} {R : Rf α} {T : TypeId} {N : Nat} {w : World} {p : Option Addr} {n c : Nat} {l : List α} (h : OwnF k R T N w (.slice p n c) l) (h0 : 0 < n) : ∃ g, p = some ⟨g, 0, none⟩ := by
  obtain ⟨rows, h1, _⟩ := h
  rcases h1.2 with ⟨hv, _⟩ | ⟨g, cap, cur, hv, _⟩
  · cases hv
    omega
  · injection hv with hp
    exact ⟨g, hp⟩
theorem OwnF.free {α : Type} {k : Nat} {R : Rf α} {T : TypeId} {N : Nat} {w : World} {g n c : Nat} {l : List α} (h : OwnF k R T N w (.slice (some ⟨g, 0, none⟩) n c) l) (i : Nat) : w.frozen? ⟨g, i, none⟩ = false := by
  obtain ⟨rows, h1, _⟩ := h
  rcases h1.2 with ⟨hv, _⟩ | ⟨g', cap, cur, hv, _, hg, _⟩
  · cases hv
  · injection hv with hp
    cases hp
    exact BX.free (show BX w g cur T from hg) i
theorem dj_at {ds : List Dc} {f : Int} {j : Nat} {d : Dc} (h : ds[j]? = some d) : ((ds.map (shD f)).take j ++ ds.drop j)[j]? = some d := by
  have hj := (List.getElem?_eq_some_iff.1 h).1
  have e : ((ds.map (shD f)).take j).length = j := by rw [List.length_take, List.length_map]; omega
  rw [List.getElem?_append_right (by omega), e, Nat.sub_self, List.getElem?_drop]
  exact h
theorem dj_set {ds : List Dc} {f : Int} {j : Nat} {d : Dc} (h : ds[j]? = some d) : ((ds.map (shD f)).take j ++ ds.drop j).set j (shD f d) = (ds.map (shD f)).take (j + 1) ++ ds.drop (j + 1) := by
  have hj := (List.getElem?_eq_some_iff.1 h).1
  have e : ((ds.map (shD f)).take j).length = j := by rw [List.length_take, List.length_map]; omega
  have hd : ds.drop j = d :: ds.drop (j + 1) := by
    obtain ⟨hi, rfl⟩ := List.getElem?_eq_some_iff.1 h
    exact List.drop_eq_getElem_cons hi
  rw [List.set_append_right _ _ (by omega), e, Nat.sub_self, hd, List.set_cons_zero, List.take_add_one, List.getElem?_map, h]
  simp
theorem dj_end {ds : List Dc} {f : Int} {n : Nat} (h : ds.length = n) : (ds.map (shD f)).take n ++ ds.drop n = ds.map (shD f) := by
  rw [List.take_of_length_le (by rw [List.length_map]; omega), List.drop_eq_nil_of_le (by omega), List.append_nil]
theorem dj_len {ds : List Dc} {f : Int} {n j : Nat} (h : ds.length = n) (hj : j ≤ n) : ((ds.map (shD f)).take j ++ ds.drop j).length = n := by
  rw [List.length_append, List.length_take, List.length_map, List.length_drop]
  omega
theorem feeds_step {l : List Int} {i : Nat} {c : Int} (h : l[i]? = some c) : feeds (l.take (i + 1)) = feeds (l.take i) + (if c = 10 then 1 else 0) := by
  unfold feeds
  rw [List.take_add_one, h, Option.toList_some, List.filter_append, List.length_append]
  by_cases h10 : c = 10
  · subst h10
    rw [if_pos rfl]
    rfl
  · rw [if_neg h10]
    have e : [c].filter (fun x => decide (x = 10)) = [] := by rw [List.filter_cons, if_neg (by simpa using h10)]; rfl
    rw [e]
    rfl
/-- The lines of tokens lie between nought and B. -/
def Tb (B : Int) (out : List Tk) : Prop := ∀ t ∈ out, 0 ≤ t.2.2.2 ∧ t.2.2.2 ≤ B
def Tb0 (B : Int) : LxR → Prop
  | .error _ => True
  | .ok (ln, out) => 0 ≤ ln ∧ ln ≤ B ∧ Tb B out
theorem tokW_ln {l : List Int} {ln : Int} {tk : Tk} (h : tokW l ln = some tk) : tk.2.2.2 = ln := by
  unfold tokW at h
  split at h
  · cases h; rfl
  · split at h
    · cases h; rfl
    · cases h
theorem Tb0.push {B : Int} {out : List Tk} {tk : Tk} {ln : Int} {k : Int → List Tk → LxR} (h : ∀ out, Tb B out → Tb0 B (k ln out)) (ho : Tb B out) (ht : 0 ≤ tk.2.2.2 ∧ tk.2.2.2 ≤ B) : Tb0 B (pushT out tk ln k) := by
  unfold pushT
  split
  · trivial
  · exact h _ (fun t hm => (List.mem_append.1 hm).elim (ho t) (fun q => by rw [List.mem_singleton.1 q]; exact ht))
theorem lexP_tb (B : Int) : ∀ (f : Nat) (l : List Int) (ln : Int) (out : List Tk), 0 ≤ ln → ln + f ≤ B → Tb B out → Tb0 B (lexP f l ln out)
  | 0, l, ln, out, h0, h1, h => ⟨h0, by omega, h⟩
  | f + 1, [], ln, out, h0, h1, h => ⟨h0, by omega, h⟩
  | f + 1, c :: t, ln, out, h0, h1, h => by
    have h2 : ln + f ≤ B := by omega
    rw [lexP]
    split
    · exact lexP_tb B f _ _ _ h0 h2 h
    split
    · exact lexP_tb B f _ _ _ h0 h2 h
    split
    · exact Tb0.push (fun out h => lexP_tb B f t ln out h0 h2 h) h (by simp only; omega)
    split
    · exact Tb0.push (fun out h => lexP_tb B f t ln out h0 h2 h) h (by simp only; omega)
    split
    · exact Tb0.push (fun out h => lexP_tb B f t (ln + 1) out (by omega) (by omega) h) h (by simp only; omega)
    split
    · split
      · trivial
      · rename_i htk
        exact Tb0.push (fun out h => lexP_tb B f _ ln out h0 h2 h) h (by rw [tokW_ln htk]; omega)
    · trivial
theorem lexB_tb {l : List Int} {ts : List Tk} {x e : Int} (h : lexB l = (ts, x, e)) : Tb 4097 ts := by
  have nil : Tb 4097 [] := fun t ht => by cases ht
  unfold lexB at h
  split at h
  · cases h; exact nil
  · rename_i h4
    have q := lexP_tb 4097 l.length l 1 [] (by omega) (by omega) nil
    rcases hr : lexP l.length l 1 [] with ⟨y, e'⟩ | ⟨ln, A⟩
    · rw [hr] at h
      cases h
      exact nil
    · rw [hr] at h q
      unfold finL at h
      simp only at h
      split at h
      · cases h; exact nil
      · cases h
        intro t ht
        rcases List.mem_append.1 ht with hm | hm
        · exact q.2.2 t hm
        · rw [List.mem_singleton.1 hm]
          exact ⟨q.1, q.2.1⟩
theorem linA_tb (B : Int) : ∀ (f : Nat) (l : List Tk) (out Y : List Dc), Tb B l → (∀ d ∈ out, 0 ≤ d.2.2.2.2.2.2 ∧ d.2.2.2.2.2.2 ≤ B) → linA f l out = .ok Y → ∀ d ∈ Y, 0 ≤ d.2.2.2.2.2.2 ∧ d.2.2.2.2.2.2 ≤ B
  | 0, l, out, Y, hl, ho, h => by cases h; exact ho
  | f + 1, [], out, Y, hl, ho, h => by cases h; exact ho
  | f + 1, t :: r, out, Y, hl, ho, h => by
    rw [linA] at h
    split at h
    · cases h; exact ho
    split at h
    · exact linA_tb B f _ _ _ (fun t ht => hl t (List.mem_cons_of_mem _ ht)) ho h
    dsimp only at h
    split at h
    · cases h
    · refine linA_tb B f _ _ _ (fun t ht => hl t (List.mem_of_mem_drop ht)) (fun d hd => ?_) h
      rcases List.mem_append.1 hd with hm | hm
      · exact ho d hm
      · rw [List.mem_singleton.1 hm]
        exact hl t (List.mem_cons_self ..)
theorem linG_tb {l : List Int} {X : List Dc} {x : Int} (h : linG l = (X, x, 0)) : ∀ d ∈ X, 0 ≤ d.2.2.2.2.2.2 ∧ d.2.2.2.2.2.2 ≤ 4097 := by
  unfold linG at h
  split at h
  · obtain ⟨rfl, _⟩ := Prod.mk.inj h
    intro d hd
    cases hd
  rcases hb : lexB l with ⟨ts, y, e⟩
  rw [hb] at h
  rcases hr : linX ts [] with z | Y
  · rw [hr] at h
    cases h
  · rw [hr] at h
    unfold gQ at h
    simp only at h
    split at h
    · cases h
    · cases h
      exact linA_tb 4097 _ _ _ _ (lexB_tb hb) (fun d hd => by cases hd) hr
/-- A line's number is written. -/
theorem RDc.line {d : Dc} (x : Int) : ∀ (W : World) (r : List Value) (F : FP), RDc W r d F → RDc W (r.set 6 (.int .i64 x)) (lnD d x) F := by
  rintro W r F ⟨p, n, c, rfl, h2, h3, h4⟩
  exact ⟨p, n, c, rfl, h2, h3, h4⟩
end Go.Proofs.YtadmibfnjhockaaDoor
