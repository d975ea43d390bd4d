/- Texts of this claim, joined: EOrd2, SSort, SOrd, EFun2. -/
import Derived.Test.YtooggheoaglbeaaJ9
import Derived.Shelf.SlSortCmp.PdqK
import Derived.Test.YtooggheoaglbeaaJ6
import Derived.Test.YtooggheoaglbeaaJ4
/- What 'clone' does. -/
namespace Go.Proofs.Ytooggheoaglbeaa
open Go.RowKit
set_option linter.unusedVariables false

theorem KP.next {g : Nat} {u W w' : World} (h : KP g u W) (hb : Below W.heap.size W w') : KP g u w' := fun p v hp hne => bcell hb (h p v hp hne)
theorem NS.lt {w : World} {p : Option Addr} {n : Nat} {l : List Int} (h : NS w p n l) {g : Nat} (hg : w.heap.size ≤ g) : n = 0 ∨ ∀ a, p = some a → a.block ≠ g := by
  rcases Nat.eq_zero_or_pos n with h0 | hp
  · exact .inl h0
  · rcases h.2.2 with h0 | ⟨b, off, ha, hc⟩
    · exact .inl h0
    · refine .inr fun a ha' => ?_
      rw [ha] at ha'
      cases ha'
      have := World.block_lt_of_cell? w _ (hc 0 hp)
      simp only at this ⊢
      omega
theorem ES.lt {w : World} {p : Option Addr} {n : Nat} {l : List Eff} (h : ES w p n l) {g : Nat} (hg : w.heap.size ≤ g) : n = 0 ∨ ∀ a, p = some a → a.block ≠ g := by
  rcases Nat.eq_zero_or_pos n with h0 | hp
  · exact .inl h0
  · rcases h.1.2.2 with h0 | ⟨b, off, ha, hc⟩
    · exact .inl h0
    · refine .inr fun a ha' => ?_
      rw [ha] at ha'
      cases ha'
      have hl : 0 < l.length := by rw [h.1.1]; exact hp
      have := World.block_lt_of_cell? w _ (hc 0 l[0] (List.getElem?_eq_getElem hl) 0 _ rfl)
      simp only at this ⊢
      omega
theorem NS.kp0 {g : Nat} {u W : World} {p : Option Addr} {n : Nat} {l : List Int} (h : NS u p n l) (hk : KP g u W) (hp : n = 0 ∨ ∀ a, p = some a → a.block ≠ g) : NS W p n l := by
  rcases hp with h0 | hp
  · exact ⟨h.1, h.2.1, .inl h0⟩
  · exact h.kp hk hp
theorem ES.kp0 {g : Nat} {u W : World} {p : Option Addr} {n : Nat} {l : List Eff} (h : ES u p n l) (hk : KP g u W) (hp : n = 0 ∨ ∀ a, p = some a → a.block ≠ g) : ES W p n l := by
  rcases hp with h0 | hp
  · exact ⟨⟨h.1.1, h.1.2.1, .inl h0⟩, h.2⟩
  · exact h.kp hk hp
/-- What a slice's block holds, by type. -/
def TYB (w : World) (p : Option Addr) (t : TypeId) : Prop := ∀ a, p = some a → ∃ C fr, w.heap[a.block]? = some (.cells C t fr)
theorem TYB.below {w w' : World} {p : Option Addr} {t : TypeId} (h : TYB w p t) (hb : Below w.heap.size w w') : TYB w' p t := fun a ha => by
  obtain ⟨C, fr, hc⟩ := h a ha
  exact ⟨C, fr, by rw [hb.block _ (Array.getElem?_eq_some_iff.1 hc).1]; exact hc⟩
theorem TYB.set {w : World} {p : Option Addr} {t : TypeId} (h : TYB w p t) (g : Nat) (hg : ∀ a, p = some a → a.block ≠ g) (i : Nat) (v : Value) : TYB (w.setCell ⟨g, i, none⟩ v) p t := fun a ha => by
  obtain ⟨C, fr, hc⟩ := h a ha
  exact ⟨C, fr, by rw [heap_setCell_other w ⟨g, i, none⟩ a.block v (hg a ha)]; exact hc⟩
theorem TYB.put4 {w : World} {p : Option Addr} {t : TypeId} (h : TYB w p t) (g : Nat) (hg : ∀ a, p = some a → a.block ≠ g) (a b c d : Value) : TYB ((((w.setCell ⟨g, 0, none⟩ a).setCell ⟨g, 1, none⟩ b).setCell ⟨g, 2, none⟩ c).setCell ⟨g, 3, none⟩ d) p t := (((h.set g hg 0 a).set g hg 1 b).set g hg 2 c).set g hg 3 d
theorem TYB.grown {w w' : World} {r : Option Nat} {p : Option Addr} {t t' : TypeId} (h : TYB w p t) (hg : w.grownBy w' r) (hr : ∀ g, r = some g → ∃ C fr, w.heap[g]? = some (.cells C t' fr)) (ht : t ≠ t') : TYB w' p t := fun a ha => by
  obtain ⟨C, fr, hc⟩ := h a ha
  refine ⟨C, fr, ?_⟩
  rw [hg.block _ (Array.getElem?_eq_some_iff.1 hc).1 ?_]
  · exact hc
  · intro e
    obtain ⟨C', fr', hc'⟩ := hr _ e.symm
    rw [hc] at hc'
    cases hc'
    exact ht rfl
theorem own_ty {e : TypeId} {k : Nat} {N : Nat} {w : World} {p : Option Addr} {n c m : Nat} {xs : List Value} (h : w.ownsRow N e k (.slice p n c) m xs) : TYB w p e := by
  intro a ha
  rcases h.2 with ⟨hh, _⟩ | ⟨g, cap, cur, hh, hb, hg, _⟩
  · cases hh; cases ha
  · cases hh; cases ha; exact ⟨_, _, hg⟩
set_option maxHeartbeats 2000000 in
theorem clone_evt (r s : Int) (pa : Option Addr) (na ca : Nat) (pe : Option Addr) (ne ce : Nat) (c : List Int) (l : List Eff) (w : World) (hN : NS w pa na c) (hE : ES w pe ne l) (hn1 : na ≤ 1000000) (hn2 : ne ≤ 100000) :
    Calls Try.prog 53 #[.agg #[.int .i64 r, .int .i64 s, .slice pa na ca, .slice pe ne ce]] w fun e w' => ∃ pa' na' ca' pe' ne' ce', e = .returned (.agg #[.int .i64 r, .int .i64 s, .slice pa' na' ca', .slice pe' ne' ce']) ∧ NS w' pa' na' c ∧ CP pa' na' ca' ∧ ES w' pe' ne' l ∧ CP pe' ne' ce' ∧ Below w.heap.size w w' ∧ TYB w' pa' 3 ∧ TYB w' pe' 35 := by
  have HU := hide (bel2 w (bxE r s pa na ca pe ne ce) bxE0)
  have N1 := hide ((hN.alloc (bxE r s pa na ca pe ne ce)).alloc bxE0)
  have E1 := hide ((hE.alloc (bxE r s pa na ca pe ne ce)).alloc bxE0)
  have X1 := (BX.new w _ rfl #[.int .i64 r, .int .i64 s, .slice pa na ca, .slice pe ne ce] 28).alloc bxE0
  have X2 := hide (BX.new (w.alloc (bxE r s pa na ca pe ne ce)) (w.heap.size + 1) (by simp) #[.int .i64 0, .int .i64 0, .slice none 0 0, .slice none 0 0] 28)
  have c0 := X1.cell 0 _ rfl
  have c1 := X1.cell 1 _ rfl
  have c2 := X1.cell 2 _ rfl
  have c3 := X1.cell 3 _ rfl
  have hby := hide hE.2
  have hgu := hide X2.out.size
  have hne : w.heap.size ≠ w.heap.size + 1 := by omega
  have hfa := hide (hN.lt (show w.heap.size ≤ w.heap.size + 1 by omega))
  have hfe := hide (hE.lt (show w.heap.size ≤ w.heap.size + 1 by omega))
  clear hN hE X1
  go_enter Try.func53, Try.ntmps53
  go_wp2
  generalize hu : (w.alloc (bxE r s pa na ca pe ne ce)).alloc bxE0 = u at *
  clear hu
  refine wp_region_held_drew (S := fun W => KP (w.heap.size + 1) u W) (by kernel_rfl) (KP.drew0 _ _) (fun hS0 => ?_)
  refine takeInH 0 3 ?v1 rfl rfl (by kernel_rfl) (by kernel_rfl) (by kernel_rfl) (fun _ _ _ h => h) (by kernel_rfl) hS0 ?hy1 ?_
  case hy1 => (intro W hW; clear hW; go_simp; try rfl)
  simp only [Act.put, List.setIfInBounds_toArray, List.set_cons_zero, List.set_cons_succ]
  refine takeInH 1 4 ?v2 rfl rfl (by kernel_rfl) (by kernel_rfl) (by kernel_rfl) (fun _ _ _ h => h) (by kernel_rfl) hS0 ?hy2 ?_
  case hy2 => (intro W hW; have e0 := (kcell hW c0 hne); have e1 := (kcell hW c1 hne); have e2 := (kcell hW c2 hne); have e3 := (kcell hW c3 hne); clear hW; go_simp; try rfl)
  simp only [Act.put, List.setIfInBounds_toArray, List.set_cons_zero, List.set_cons_succ]
  refine takeInH 2 5 ?v3 rfl rfl (by kernel_rfl) (by kernel_rfl) (by kernel_rfl) (fun _ _ _ h => h) (by kernel_rfl) hS0 ?hy3 ?_
  case hy3 => (intro W hW; clear hW; go_simp; try rfl)
  simp only [Act.put, List.setIfInBounds_toArray, List.set_cons_zero, List.set_cons_succ]
  refine takeInH 3 6 ?v4 rfl rfl (by kernel_rfl) (by kernel_rfl) (by kernel_rfl) (fun _ _ _ h => h) (by kernel_rfl) hS0 ?hy4 ?_
  case hy4 => (intro W hW; have e0 := (kcell hW c0 hne); have e1 := (kcell hW c1 hne); have e2 := (kcell hW c2 hne); have e3 := (kcell hW c3 hne); clear hW; go_simp; try rfl)
  simp only [Act.put, List.setIfInBounds_toArray, List.set_cons_zero, List.set_cons_succ]
  refine takeInH 5 8 ?v5 rfl rfl (by kernel_rfl) (by kernel_rfl) (by kernel_rfl) (fun _ _ _ h => h) (by kernel_rfl) hS0 ?hy5 ?_
  case hy5 => (intro W hW; clear hW; go_simp; try rfl)
  simp only [Act.put, List.setIfInBounds_toArray, List.set_cons_zero, List.set_cons_succ]
  refine takeInH 6 9 ?v6 rfl rfl (by kernel_rfl) (by kernel_rfl) (by kernel_rfl) (fun _ _ _ h => h) (by kernel_rfl) hS0 ?hy6 ?_
  case hy6 => (intro W hW; have e0 := (kcell hW c0 hne); have e1 := (kcell hW c1 hne); have e2 := (kcell hW c2 hne); have e3 := (kcell hW c3 hne); clear hW; go_simp; try rfl)
  simp only [Act.put, List.setIfInBounds_toArray, List.set_cons_zero, List.set_cons_succ]
  refine wpAnyH_ready (rs := [4]) (by kernel_rfl) (by simp) ?_
  refine AllReadyH.cons rfl (fun K hK => ?_) AllReadyH.nil
  go_simp
  refine (cloneN_any pa na ca c _ (N1.out.kp0 hS0 hfa.out) hn1).mono ?_
  rintro e w1 ⟨v, rfl, hO, hb⟩
  obtain ⟨p7, k7, hv, hns, hcp⟩ := hO.open
  subst hv
  have M1 := hide hns
  have L1 := hide (own_lo hO)
  have T1 := hide (own_ty hO)
  have C1 := hide hcp
  have hz1 := hide hb.size
  have b1 := hide hb
  clear hO hns hcp
  try go_wp2_with fail
  refine hK.out _ _ ?hs7 (fun hS1 => ?_)
  case hs7 => exact KP.next hS0 hb
  clear hK K
  try simp only [Act.put, List.setIfInBounds_toArray, List.set_cons_zero, List.set_cons_succ]
  refine wpAnyH_ready (rs := [7]) (by kernel_rfl) (by simp) ?_
  refine AllReadyH.cons rfl (fun K hK => ?_) AllReadyH.nil
  go_simp
  refine (cloneF_any pe ne ce l _ (E1.out.kp0 hS1 hfe.out) hn2).mono ?_
  rintro e w2 ⟨v, rfl, hO, hb⟩
  obtain ⟨p8, k8, hv, hes, hcp⟩ := hO.open encF_len
  subst hv
  have M2 : Hid (ES w2 p8 l.length l) := ⟨hes, hby.out⟩
  have L2 := hide (own_lo hO)
  have T2 := hide (own_ty hO)
  replace T1 := hide (T1.out.below hb)
  have C2' := hide hcp
  replace M1 := hide (M1.out.below hb)
  have b2 := hide hb
  clear hO hes hcp
  try go_wp2_with fail
  refine hK.out _ _ ?hs8 (fun hS2 => ?_)
  case hs8 => exact KP.next hS1 hb
  clear hK K
  try simp only [Act.put, List.setIfInBounds_toArray, List.set_cons_zero, List.set_cons_succ]
  refine takeInH 8 11 ?v9 rfl rfl (by kernel_rfl) (by kernel_rfl) (by kernel_rfl) (fun _ _ _ h => h) (by kernel_rfl) hS2 ?hy9 ?_
  case hy9 => (intro W hW; clear hW; go_simp; try rfl)
  simp only [Act.put, List.setIfInBounds_toArray, List.set_cons_zero, List.set_cons_succ]
  refine wpAnyH_ready (rs := [9]) (by kernel_rfl) (by simp) ?_
  refine AllReadyH.cons rfl (fun K hK => ?_) AllReadyH.nil
  have X9 := hide ((X2.out.drew.below b1.out).below b2.out)
  have e0 := X9.out.cell 0 _ rfl
  have e1 := X9.out.cell 1 _ rfl
  have e2 := X9.out.cell 2 _ rfl
  have e3 := X9.out.cell 3 _ rfl
  have z0 := X9.out.free 0
  have z1 := X9.out.free 1
  have z2 := X9.out.free 2
  have z3 := X9.out.free 3
  go_simp
  refine hK.out _ _ ?hs10 (fun hS3 => ?_)
  case hs10 => exact hS2.put4 _ _ _ _
  clear hK K
  try simp only [Act.put, List.setIfInBounds_toArray, List.set_cons_zero, List.set_cons_succ]
  refine wpAnyH_done (by kernel_rfl) ?_ _
  go_wp2
  refine bodyPost_ret (results_cell_row rfl _ _ _ _ _ _ _ rfl (X9.out.put4 _ _ _ _) Try.underlying28 rfl Try.sizeEvt) rfl ?_
  refine ⟨p7, _, k7, p8, _, k8, rfl, M1.out.kp ((KP.refl _ _).put4 _ _ _ _) (fun a ha => ?_), C1.out, M2.out.kp ((KP.refl _ _).put4 _ _ _ _) (fun a ha => ?_), C2'.out, bel_put4 (bel_next (bel_next HU.out.drew b1.out) b2.out) (by omega) _ _ _ _, T1.out.put4 _ (fun a ha => ?_) _ _ _ _, T2.out.put4 _ (fun a ha => ?_) _ _ _ _⟩
  · have h := L1.out a ha
    have h2 := hgu.out
    simp only [World.drew] at h
    omega
  · have h := L2.out a ha
    have h2 := hgu.out
    have h3 := hz1.out
    simp only [World.drew] at h3
    omega
  · have h := L1.out a ha
    have h2 := hgu.out
    simp only [World.drew] at h
    omega
  · have h := L2.out a ha
    have h2 := hgu.out
    have h3 := hz1.out
    simp only [World.drew] at h3
    omega
end Go.Proofs.Ytooggheoaglbeaa

/- 'slices.SortStableFunc' of a row of events of the call's own: the same events, sorted stably. -/
namespace Go.Proofs.Ytooggheoaglbeaa
open Go.Shelf Go.RowKit Go.Lib Go.Sort
set_option linter.unusedVariables false

/-- Does an event stand ahead of another one, in order? -/
def ltE (a b : Evt) : Bool := decide (cmpE a.2.1 a.1 b.2.1 b.1 < 0)
theorem ltE_iff (a b : Evt) : ltE a b = true ↔ sumL a.2.1 < sumL b.2.1 ∨ (sumL a.2.1 = sumL b.2.1 ∧ (a.1.1 < b.1.1 ∨ (a.1.1 = b.1.1 ∧ a.1.2 < b.1.2))) := by
  unfold ltE cmpE orI cmpI
  rw [decide_eq_true_iff]
  by_cases h1 : sumL a.2.1 < sumL b.2.1
  · simp [h1]
  · by_cases h2 : sumL a.2.1 > sumL b.2.1
    · simp [h1, h2]; omega
    · have e : sumL a.2.1 = sumL b.2.1 := by omega
      simp only [if_false, if_true, e, true_and, Int.lt_irrefl, false_or]
      rw [cmpD_lt]
      unfold lessD
      rw [decide_eq_true_iff]
theorem ltE_not (a b : Evt) : ltE a b = false ↔ ¬ (sumL a.2.1 < sumL b.2.1 ∨ (sumL a.2.1 = sumL b.2.1 ∧ (a.1.1 < b.1.1 ∨ (a.1.1 = b.1.1 ∧ a.1.2 < b.1.2)))) := by
  rw [← ltE_iff]
  cases ltE a b <;> simp
theorem ordE : Ord ltE := by
  refine ⟨fun x y z h1 h2 => ?_, fun x y z h1 h2 => ?_, fun x => ?_⟩
  · rw [ltE_iff] at *; omega
  · rw [ltE_not] at *; omega
  · rw [ltE_not]; omega
section
variable {α β : Type} {lt : α → α → Bool} {lt' : β → β → Bool}
theorem mrg_map (f : α → β) (hf : ∀ a b, lt' (f a) (f b) = lt a b) : ∀ (A B : List α), (mrg lt A B).map f = mrg lt' (A.map f) (B.map f) := by
  refine two_ind (fun B => ?_) (fun x A => ?_) (fun x A y B i1 i2 => ?_)
  · rw [mrg_nil, List.map_nil, mrg_nil]
  · rw [mrg_nil', List.map_nil, mrg_nil']
  · rw [mrg_cons, List.map_cons, List.map_cons, mrg_cons, hf]
    cases lt y x with
    | true => rw [if_pos rfl, if_pos rfl, List.map_cons, i1, List.map_cons]
    | false => rw [if_neg (by simp), if_neg (by simp), List.map_cons, i2, List.map_cons]
theorem srt_map (f : α → β) (hf : ∀ a b, lt' (f a) (f b) = lt a b) (l : List α) : (srt lt l).map f = srt lt' (l.map f) := by
  have h : ∀ (l acc : List α), (l.foldl (fun acc x => mrg lt acc [x]) acc).map f = (l.map f).foldl (fun acc x => mrg lt' acc [x]) (acc.map f) := by
    intro l
    induction l with
    | nil => intro acc; rfl
    | cons x r ih =>
      intro acc
      rw [List.foldl_cons, ih, List.map_cons, List.foldl_cons, mrg_map f hf]
      rfl
  exact h l []
end
/-- A row's value and the event that it is, none of it in the row's own block. -/
def OkR (w : World) (g : Nat) (p : Rv × Evt) : Prop := Rel w p.1 p.2 ∧ (∀ a, p.1.2.2.1.1 = some a → a.block ≠ g) ∧ ∀ a, p.1.2.2.2.1 = some a → a.block ≠ g
abbrev RE (w : World) (g : Nat) : Type := {p : Rv × Evt // OkR w g p}
theorem CP.none0 : CP none 0 0 := ⟨Nat.le_refl _, by decide, fun _ => rfl⟩
abbrev inhRE (w : World) (g : Nat) : Inhabited (RE w g) := ⟨⟨((0, 0, (none, 0, 0), (none, 0, 0)), ((0, 0), [], [])), ⟨rfl, ⟨NS.nil w none, CP.none0⟩, ⟨ES.nil w none, CP.none0⟩⟩, fun a h => (by cases h), fun a h => (by cases h)⟩⟩
def encRE (w : World) (g : Nat) (x : RE w g) : List Value := encV x.1.1
def cfE (w : World) (g : Nat) (x y : RE w g) : Int := cmpE x.1.2.2.1 x.1.2.1 y.1.2.2.1 y.1.2.1
theorem ordRE (w : World) (g : Nat) : Ord (ltOf (cfE w g)) := ⟨fun x y z => ordE.1 x.1.2 y.1.2 z.1.2, fun x y z => ordE.2.1 x.1.2 y.1.2 z.1.2, fun x => ordE.2.2 x.1.2⟩
theorem Ord.swo {α : Type} {lt : α → α → Bool} (h : Ord lt) : SWO lt := ⟨h.2.2, h.1, h.2.1⟩
theorem kp_sort {α : Type} (w : World) (g : Nat) [Inhabited α] (enc : α → List Value) (k m : Nat) (dk : Array α) (os : Array Obj) : KP g w (sortWorldK enc k w g 0 m dk os) := fun p v hp hne => by
  rw [cell?_sortWorldK_other enc k w g 0 m dk os p hne (World.block_lt_of_cell? w _ hp)]
  exact hp
theorem cmpLaysE (w : World) (g size : Nat) : @CmpLays (RE w g) (inhRE w g) Try.prog 55 #[] (encRE w g) 4 (cfE w g) g 0 size w := by
  letI := inhRE w g
  rintro m os dk hs ⟨⟨⟨r, s, ⟨pa, na, ca⟩, pe, ne, ce⟩, e⟩, hx⟩ ⟨⟨⟨r', s', ⟨pb, nb, cb⟩, pf, nf, cf⟩, e'⟩, hy⟩
  have N1 := hx.1.2.1.1.kp (kp_sort w g (encRE w g) 4 m dk os) hx.2.1
  have N2 := hy.1.2.1.1.kp (kp_sort w g (encRE w g) 4 m dk os) hy.2.1
  have q := compareE_gr r s pa na ca pe ne ce r' s' pb nb cb pf nf cf _ _ _ N1 N2
  refine Calls.mono q ?_
  rintro e2 w' ⟨rfl, q, os', rfl⟩
  refine ⟨?_, q, os', rfl⟩
  have h1 : e.1 = (r, s) := hx.1.1
  have h2 : e'.1 = (r', s') := hy.1.1
  show _ = Ending.returned (.int .i64 (cmpE e.2.1 e.1 e'.2.1 e'.1))
  rw [h1, h2]
/-- Values and events, taken together. -/
theorem re_of (w : World) (g : Nat) : ∀ (xs : List Rv) (es : List Evt), xs.length = es.length → (∀ (i : Nat) x e, xs[i]? = some x → es[i]? = some e → OkR w g (x, e)) → ∃ l : List (RE w g), l.map (fun p => p.1.1) = xs ∧ l.map (fun p => p.1.2) = es
  | [], [], _, _ => ⟨[], rfl, rfl⟩
  | x :: xs, [], h, _ => by simp at h
  | [], e :: es, h, _ => by simp at h
  | x :: xs, e :: es, h, hr => by
    obtain ⟨l, h1, h2⟩ := re_of w g xs es (by simpa using h) (fun i x' e' hx he => hr (i + 1) x' e' (by simpa using hx) (by simpa using he))
    exact ⟨⟨(x, e), hr 0 x e rfl rfl⟩ :: l, by simp [h1], by simp [h2]⟩
theorem insE_any {α : Type} [Inhabited α] (enc : α → List Value) (cf : α → α → Int) (g : Nat) (cb : Array Value) (blk off cap a b : Nat) (d0 d : Array α) (w0 w : World)
    (eg : ∀ args w, (callFunc g args).run Try.prog w = .ok (.enter g args) w) (hcmp : CmpLays Try.prog g cb enc 4 cf blk off d0.size w0) (R : RowK enc 4 w0 blk off d0) (hs : d0.size = d.size) (S : SWK enc 4 w0 blk off d w) (hO : SWO (ltOf cf)) (hab : a ≤ b) (hb : b ≤ d.size) (hsz : d.size < 4611686018427387904) :
    Calls Try.prog 94 #[.slice (some ⟨blk, off, none⟩) d.size cap, .int .i64 a, .int .i64 b, .func (.func g) #[] cb] w fun e w' => e = .returned (.tuple #[]) ∧ SWK enc 4 w0 blk off (Sort.insertionSort (ltOf cf) d a b) w' ∧ (Sort.insertionSort (ltOf cf) d a b).size = d.size := by
  have q := AnyQ.insertionSortCmpFunc_w insE 4 Try.isAgg28 Try.sizeOf28 enc cf g cb blk off cap a b d0 d w0 w eg hcmp R hs S hO hab hb hsz
  change Calls Try.prog 94 _ _ _ at q
  refine Calls.mono q ?_
  rintro e w' ⟨rfl, h⟩
  exact ⟨rfl, h, (insertionSort_holds hO d a b hab hb).1.1⟩
theorem heap_put_oth {α : Type} [Inhabited α] (enc : α → List Value) (c : Nat) (w : World) (g k : Nat) (d : Array α) (h : k ≠ g) : (putRowK enc c w g 0 d).heap[k]? = w.heap[k]? := by
  unfold putRowK putRow mapBlock
  simp only [Array.getElem?_modify]
  rw [if_neg (fun e => h e.symm)]
theorem swk_bel {α : Type} [Inhabited α] {enc : α → List Value} {c : Nat} {w W : World} {g : Nat} {d : Array α} (h : SWK enc c w g 0 d W) (N : Nat) (hN : N ≤ g) (hg : g < w.heap.size) : Below N w W := by
  obtain ⟨n, os, rfl⟩ := h
  refine ⟨rfl, rfl, rfl, size_sortWorldK_c enc c w g 0 n d os, fun k hk => ?_⟩
  unfold sortWorldK
  rw [heap_grow_old _ _ (by rw [size_putRowK]; show k < w.heap.size; omega), heap_put_oth _ _ _ _ _ _ (by omega)]
  rfl
set_option maxHeartbeats 1000000 in
/-- 'slices.SortStableFunc' of a row of the call's own. -/
theorem sortE_any (N g cap : Nat) (xs : List Rv) (es : List Evt) (w : World) (n : Nat) (hn : xs.length = n) (hl : es.length = n) (hN : N ≤ g) (hg : g < w.heap.size) (hsz : n ≤ 1000)
    (hC : ∀ i v, (xs.flatMap encV)[i]? = some v → w.cell? ⟨g, i, none⟩ = some v) (hF : ∀ i, w.frozen? ⟨g, i, none⟩ = false) (hR : ∀ (i : Nat) x e, xs[i]? = some x → es[i]? = some e → OkR w g (x, e)) :
    Calls Try.prog 54 #[.slice (some ⟨g, 0, none⟩) n cap, .func (.func 55) #[] #[]] w fun e w' => e = .returned (.tuple #[]) ∧ Below N w w' ∧ EVS w' (some ⟨g, 0, none⟩) n (srt ltE es) := by
  letI := inhRE w g
  obtain ⟨l, h1, h2⟩ := re_of w g xs es (by omega) hR
  have hll : l.length = n := by rw [← hn, ← h1]; simp
  have hln : l.toArray.size = n := by simpa using hll
  have hk : ∀ x : RE w g, (encRE w g x).length = 4 := fun x => rfl
  have hgl : ∀ t, t < n → ∃ y, l[t]? = some y ∧ l.toArray[t]! = y ∧ xs[t]? = some y.1.1 := fun t ht => by
    refine ⟨l[t]'(by omega), List.getElem?_eq_getElem _, ?_, ?_⟩
    · rw [getElem!_pos _ t (by simpa using (by omega : t < l.length))]; simp
    · rw [← h1, List.getElem?_map, List.getElem?_eq_getElem (by omega : t < l.length)]; rfl
  have hH : HoldsK (encRE w g) 4 w g 0 l.toArray := by
    intro j hj
    rw [size_flatK, hln] at hj
    rw [get_flatK _ _ _ _ (by rw [hln]; exact hj), Nat.zero_add]
    obtain ⟨y, hy1, hy2, hy3⟩ := hgl (j / 4) (by omega)
    rw [hy2]
    refine ⟨?_, hF j⟩
    have hj4 : j % 4 < (encV y.1.1).length := by rw [encV_len]; omega
    have hf := flatR_get encV 4 encV_len xs (j / 4) y.1.1 (j % 4) _ hy3 (List.getElem?_eq_getElem hj4)
    have e : j / 4 * 4 + j % 4 = j := by omega
    rw [e] at hf
    rw [hC j _ hf]
    show some ((encV y.1.1)[j % 4]'hj4) = some ((encV y.1.1)[j % 4]!)
    rw [getElem!_pos (encV y.1.1) (j % 4) hj4]
  have R : RowK (encRE w g) 4 w g 0 l.toArray := ⟨hk, fun x => encV_one x.1.1, hH, hg⟩
  have ho := ordRE w g
  have hcmp := cmpLaysE w g l.toArray.size
  have eg : ∀ args w, (callFunc 55 args).run Try.prog w = .ok (.enter 55 args) w := enters_of Try.func55 (by kernel_rfl) rfl
  have es1 : ∀ args w, (callFunc 115 args).run Try.prog w = .ok (.enter 115 args) w := enters_of Try.func115 (by kernel_rfl) rfl
  have er : ∀ args w, (callFunc 105 args).run Try.prog w = .ok (.enter 105 args) w := enters_of Try.func105 (by kernel_rfl) rfl
  have em : ∀ args w, (callFunc 95 args).run Try.prog w = .ok (.enter 95 args) w := enters_of Try.func95 (by kernel_rfl) rfl
  have ei : ∀ args w, (callFunc 94 args).run Try.prog w = .ok (.enter 94 args) w := enters_of Try.func94 (by kernel_rfl) rfl
  have key := stable_P (P := Try.prog) tyE Try.func76 em ei (encRE w g) (cfE w g) ho 55 #[] g 0 cap l.toArray w w n hln (by omega)
    (fun a b D W hD S hab hb => by
      have q := insE_any (encRE w g) (cfE w g) 55 #[] g 0 cap a b l.toArray D w W eg hcmp R (by omega) S ho.swo hab (by omega) (by omega)
      rw [hD] at q
      exact q)
    (fun a m b D W hD S ham hmb hb => by
      have q := symMerge_P tyE Try.func95 Try.func115 Try.func105 es1 er em (encRE w g) (cfE w g) ho 55 #[] g 0 cap l.toArray w eg hcmp R (b - a) a m b D W (Nat.le_refl _) (by omega) S ham hmb (by omega) (by omega)
      rw [hD] at q
      exact q)
    (SWK.start hH)
  have HK := hide key
  have HEND : Hid (∀ W (d' : Array (RE w g)), SWK (encRE w g) 4 w g 0 d' W → d'.toList = srt (ltOf (cfE w g)) l.toArray.toList → Below N w W ∧ EVS W (some ⟨g, 0, none⟩) n (srt ltE es)) := by
    intro W d' S hd
    have hB := swk_bel S N hN hg
    have hlen : d'.toList.length = n := by rw [hd, srt_len ho]; simpa using hll
    have hsd : d'.size = n := by simpa using hlen
    have hev : d'.toList.map (fun p => p.1.2) = srt ltE es := by
      rw [hd, srt_map (lt := ltOf (cfE w g)) (lt' := ltE) (fun p : RE w g => p.1.2) (fun a b => rfl)]
      simp [h2]
    have hKP : KP g w W := by
      obtain ⟨q, os, rfl⟩ := S
      exact kp_sort w g (encRE w g) 4 q d' os
    have hHW := S.holds hg hH (by rw [hsd, hln])
    refine ⟨hB, d'.toList.map (fun p => p.1.1), ⟨by simpa using hsd, by unfold maxLen; omega, .inr ⟨g, 0, rfl, fun i x hx j v hv => ?_⟩⟩, by rw [← hev]; simpa using hsd, fun i x e hx he => ?_⟩
    · rw [List.getElem?_map] at hx
      obtain ⟨y, hy, rfl⟩ := Option.map_eq_some_iff.1 hx
      have hi : i < d'.size := by have := (List.getElem?_eq_some_iff.1 hy).1; simpa using this
      have hj : j < 4 := by have := (List.getElem?_eq_some_iff.1 hv).1; rwa [encV_len] at this
      have a := hHW.cell (c := j) hi hj
      have hy2 : d'[i]! = y := by
        rw [getElem!_pos _ i hi]
        have := (List.getElem?_eq_some_iff.1 hy).2
        simpa using this
      rw [hy2] at a
      have ha := a.1
      rw [show (⟨g, 0 + i * 4 + j, none⟩ : Addr) = ⟨g, 0 + (i * 4 + j), none⟩ by rw [Nat.add_assoc]] 
      rw [Nat.add_assoc] at ha
      rw [ha]
      congr 1
      show (encV y.1.1)[j]! = v
      have := (List.getElem?_eq_some_iff.1 hv)
      rw [getElem!_pos (encV y.1.1) j this.1]
      exact this.2
    · rw [← hev, List.getElem?_map] at he
      rw [List.getElem?_map] at hx
      obtain ⟨y, hy, rfl⟩ := Option.map_eq_some_iff.1 hx
      rw [hy] at he
      simp at he
      subst he
      have q := y.2
      exact ⟨q.1.1, ⟨q.1.2.1.1.kp hKP q.2.1, q.1.2.1.2⟩, ⟨q.1.2.2.1.kp hKP q.2.2, q.1.2.2.2⟩⟩
  clear key hcmp R hH hgl hk h1 h2 hR hC hF eg es1 er em ei hl hn hln hll
  go_enter Try.func54, Try.ntmps54
  go_wp2_with (go_at_call 76; refine Stop.at ?_)
  unfold Stop
  refine Calls.mono HK.out ?_
  rintro ex w2 ⟨rfl, d', hS, hd⟩
  have HF := hide (HEND.out w2 d' hS hd)
  clear hS hd HEND HK
  go_wp2
  go_end0
  exact ⟨rfl, HF.out.1, HF.out.2⟩
end Go.Proofs.Ytooggheoaglbeaa

/- What 'Order' does: the events of a list, sorted stably, in new memory. -/
namespace Go.Proofs.Ytooggheoaglbeaa
open Go.Shelf Go.RowKit Go.Lib Go.Sort
set_option linter.unusedVariables false

theorem NS.grownT {w w' : World} {r : Option Nat} {p : Option Addr} {n : Nat} {l : List Int} (h : NS w p n l) (hg : w.grownBy w' r) (hr : ∀ a, p = some a → some a.block ≠ r) : NS w' p n l := by
  refine ⟨h.1, h.2.1, ?_⟩
  rcases h.2.2 with h0 | ⟨b, off, ha, hc⟩
  · exact .inl h0
  · refine .inr ⟨b, off, ha, fun i hi => ?_⟩
    have := World.block_lt_of_cell? w _ (hc i hi)
    rw [World.cell?_of_block (hg.block b this (hr _ ha))]
    exact hc i hi
theorem ES.grownT {w w' : World} {r : Option Nat} {p : Option Addr} {n : Nat} {l : List Eff} (h : ES w p n l) (hg : w.grownBy w' r) (hr : ∀ a, p = some a → some a.block ≠ r) : ES w' p n l := by
  refine ⟨⟨h.1.1, h.1.2.1, ?_⟩, h.2⟩
  rcases h.1.2.2 with h0 | ⟨b, off, ha, hc⟩
  · exact .inl h0
  · refine .inr ⟨b, off, ha, fun i x hi j v hj => ?_⟩
    have := World.block_lt_of_cell? w _ (hc i x hi j v hj)
    rw [World.cell?_of_block (hg.block b this (hr _ ha))]
    exact hc i x hi j v hj
theorem TYB.ne {w : World} {p : Option Addr} {t t' : TypeId} (h : TYB w p t) {r : Option Nat} (hr : ∀ g, r = some g → ∃ C fr, w.heap[g]? = some (.cells C t' fr)) (ht : t ≠ t') : ∀ a, p = some a → some a.block ≠ r := fun a ha e => by
  obtain ⟨C, fr, hc⟩ := h a ha
  obtain ⟨C', fr', hc'⟩ := hr _ e.symm
  rw [hc] at hc'
  cases hc'
  exact ht rfl
/-- A value of the row and the event that it is; where its parts lie. -/
def RelT (w : World) (x : Rv) (e : Evt) : Prop := Rel w x e ∧ TYB w x.2.2.1.1 3 ∧ TYB w x.2.2.2.1 35
theorem RelT.below {w w' : World} {x : Rv} {e : Evt} (h : RelT w x e) (hb : Below w.heap.size w w') : RelT w' x e := ⟨h.1.below hb, h.2.1.below hb, h.2.2.below hb⟩
theorem RelT.grown {w w' : World} {r : Option Nat} {x : Rv} {e : Evt} (h : RelT w x e) (hg : w.grownBy w' r) (hr : ∀ g, r = some g → ∃ C fr, w.heap[g]? = some (.cells C 28 fr)) : RelT w' x e :=
  ⟨⟨h.1.1, ⟨h.1.2.1.1.grownT hg (h.2.1.ne hr (by decide)), h.1.2.1.2⟩, ⟨h.1.2.2.1.grownT hg (h.2.2.ne hr (by decide)), h.1.2.2.2⟩⟩, h.2.1.grown hg hr (by decide), h.2.2.grown hg hr (by decide)⟩
theorem own_blk {e : TypeId} {k : Nat} {N : Nat} {w : World} {v : Value} {m : Nat} {xs : List Value} (h : w.ownsRow N e k v m xs) : ∀ g, v.ownBlock = some g → ∃ C fr, w.heap[g]? = some (.cells C e fr) := by
  intro g hv
  rcases h.2 with ⟨hh, _⟩ | ⟨g', cap, cur, hh, hb, hg, _⟩
  · subst hh; simp [Value.ownBlock] at hv
  · subst hh
    simp [Value.ownBlock] at hv
    subst hv
    exact ⟨_, _, hg⟩
theorem OwnR.rowE {N : Nat} {w : World} {v : Value} {xs : List Rv} (h : OwnR encV 4 28 N w v xs) : (xs = [] ∧ v = .slice none 0 0) ∨ ∃ g cap, v = .slice (some ⟨g, 0, none⟩) xs.length cap ∧ N ≤ g ∧ g < w.heap.size ∧ xs.length ≤ cap ∧ cap ≤ maxLen ∧ (∀ i u, (xs.flatMap encV)[i]? = some u → w.cell? ⟨g, i, none⟩ = some u) ∧ (∀ i, w.frozen? ⟨g, i, none⟩ = false) ∧ ∃ C fr, w.heap[g]? = some (.cells C 28 fr) := by
  have h0 := h
  obtain ⟨_, h2⟩ := h
  rcases h2 with ⟨rfl, h2⟩ | ⟨g, cap, cur, rfl, hb, hg, hc1, hc2, hs, ht⟩
  · exact .inl ⟨List.eq_nil_of_length_eq_zero h2, rfl⟩
  · refine .inr ⟨g, cap, rfl, hb, (Array.getElem?_eq_some_iff.1 hg).1, hc1, hc2, fun i u hi => ?_, fun o => by simp [World.frozen?, hg], ⟨_, _, hg⟩⟩
    have hi' : i < (xs.flatMap encV).length := (List.getElem?_eq_some_iff.1 hi).1
    rw [flatR_len encV 4 encV_len] at hi'
    rw [World.ownsRow.cellAt h0 i hi']
    exact hi
set_option maxHeartbeats 400000 in
theorem ins_nil (fv : Value) (w : World) : Calls Try.prog 94 #[.slice none 0 0, .int .i64 0, .int .i64 0, fv] w fun e w' => e = .returned (.tuple #[]) ∧ w' = w := by
  go_enter Try.func94, Try.ntmps94
  go_wp2
  go_loopw [8] (fun i wr => i = .int .i64 1 ∧ wr = w) (fun _ _ => 0)
  case atStart => exact ⟨rfl, rfl⟩
  case round =>
    obtain ⟨rfl, rfl⟩ := hrel
    go_wp2
    go_end0
    exact ⟨rfl, rfl⟩
set_option maxHeartbeats 400000 in
theorem stable_nil (fv : Value) (w : World) : Calls Try.prog 76 #[.slice none 0 0, .int .i64 0, fv] w fun e w' => e = .returned (.tuple #[]) ∧ w' = w := by
  go_enter Try.func76, Try.ntmps76
  go_wp2
  go_loopw [7, 8] (fun a b wr => a = .int .i64 0 ∧ b = .int .i64 20 ∧ wr = w) (fun _ _ _ => 0)
  case atStart => exact ⟨rfl, rfl, rfl⟩
  case round =>
    obtain ⟨rfl, rfl, rfl⟩ := hrel
    go_wp2_with (go_at_call 94; refine Stop.at ?_)
    unfold Stop
    refine (ins_nil fv _).mono ?_
    rintro ex w2 ⟨rfl, rfl⟩
    go_wp2
    go_loopw [6] (fun a wr => a = .int .i64 20 ∧ wr = w2) (fun _ _ => 0)
    case atStart => exact ⟨rfl, rfl⟩
    case round =>
      obtain ⟨rfl, rfl⟩ := hrel
      go_wp2
      go_end0
      exact ⟨rfl, rfl⟩
set_option maxHeartbeats 400000 in
theorem sort_nil (fv : Value) (w : World) : Calls Try.prog 54 #[.slice none 0 0, fv] w fun e w' => e = .returned (.tuple #[]) ∧ w' = w := by
  go_enter Try.func54, Try.ntmps54
  go_wp2_with (go_at_call 76; refine Stop.at ?_)
  unfold Stop
  refine (stable_nil fv _).mono ?_
  rintro ex w2 ⟨rfl, rfl⟩
  go_wp2
  go_end0
  exact ⟨rfl, rfl⟩
set_option maxHeartbeats 2000000 in
/-- 'Order'. -/
theorem Order_evt (a : Option Addr) (n cap : Nat) (l : List Evt) (w : World) (hE : EVS w a n l) (hn : n ≤ 1000) (hsm : ∀ e ∈ l, e.2.1.length ≤ 1000000 ∧ e.2.2.length ≤ 100000) :
    Calls Try.prog 25 #[.slice a n cap] w fun e w' => ∃ p c, e = .returned (.slice p n c) ∧ EVS w' p n (srt ltE l) ∧ CP p n c ∧ Below w.heap.size w w' := by
  have hlen := hide hE.len
  have HV := hide hE
  have HSM := hide hsm
  clear hE hsm
  go_enter Try.func25, Try.ntmps25
  go_wp2
  go_loopw [3, 8] (fun v i wr => ∃ (k : Nat) (xs : List Rv), k ≤ n ∧ i = .int .i64 k ∧ Hid (xs.length = k) ∧ Hid (OwnR encV 4 28 w.heap.size wr v xs) ∧ Hid (∀ (i : Nat) x e, xs[i]? = some x → l[i]? = some e → RelT wr x e) ∧ Hid (Below w.heap.size w wr)) (fun _ i _ => n - (intOf i).toNat)
  case atStart => exact ⟨0, [], by omega, rfl, rfl, OwnR.nil _ _, (fun i x e hx => by simp at hx), Below.refl _ _⟩
  case round =>
    obtain ⟨k, xs, hk, rfl, hxl, hO, hRl, hB⟩ := hrel
    by_cases hlt : k < n
    · obtain ⟨pv, cv, hv, hrs, hcv⟩ := hO.out.open encV_len
      rw [hxl.out] at hv
      subst hv
      obtain ⟨b, off, rfl⟩ := HV.out.addr (by omega)
      obtain ⟨r, s, pa, na, ca, pe, ne, ce, c, fs, hx, x0, x1, x2, x3, hns, hca, hes, hce⟩ := HV.out.at k hlt
      replace x0 := bcell hB.out x0
      replace x1 := bcell hB.out x1
      replace x2 := bcell hB.out x2
      replace x3 := bcell hB.out x3
      have hsz := hB.out.size
      have hq := HSM.out _ (List.mem_of_getElem? hx)
      have h1 : na ≤ 1000000 := by have := hns.1; simp only at hq; omega
      have h2 : ne ≤ 100000 := by have := hes.1.1; simp only at hq; omega
      have HK := hide (clone_evt r s pa na ca pe ne ce c fs (wr.alloc (bxE r s pa na ca pe ne ce)) ((hns.below hB.out).alloc _) ((hes.below hB.out).alloc _) h1 h2)
      have HX := hide hx
      have c0 : (wr.alloc (bxE r s pa na ca pe ne ce)).cell? ⟨wr.heap.size, 0, none⟩ = some (.int .i64 r) := cell_new wr _ _ _ rfl 0 _ rfl
      have c1 : (wr.alloc (bxE r s pa na ca pe ne ce)).cell? ⟨wr.heap.size, 1, none⟩ = some (.int .i64 s) := cell_new wr _ _ _ rfl 1 _ rfl
      have c2 : (wr.alloc (bxE r s pa na ca pe ne ce)).cell? ⟨wr.heap.size, 2, none⟩ = some (.slice pa na ca) := cell_new wr _ _ _ rfl 2 _ rfl
      have c3 : (wr.alloc (bxE r s pa na ca pe ne ce)).cell? ⟨wr.heap.size, 3, none⟩ = some (.slice pe ne ce) := cell_new wr _ _ _ rfl 3 _ rfl
      clear hns hca hes hce hx hq h1 h2 hrs hcv
      go_wp2_with (first
        | (go_at_call 53; refine HK.out.mono ?_; rintro e w2 ⟨pa', na', ca', pe', ne', ce', rfl, hn2, hc2, he2, hce2, hb, t1, t2⟩; have RT : Hid (RelT w2 (r, s, (pa', na', ca'), (pe', ne', ce')) ((r, s), c, fs)) := ⟨⟨rfl, ⟨hn2, hc2⟩, ⟨he2, hce2⟩⟩, t1, t2⟩; have hb0 := bel_next (bel1 wr (bxE r s pa na ca pe ne ce)) hb; have HB2 := hide (bel_next hB.out hb0); have HO2 := hide (hO.out.below hb0); have HR2 : Hid (∀ (i : Nat) x e, xs[i]? = some x → l[i]? = some e → RelT w2 x e) := (fun i x e q1 q2 => (hRl.out i x e q1 q2).below hb0); have hz2 := HB2.out.size; clear hn2 hc2 he2 hce2 hb t1 t2 hb0)
        | (at_builtin; refine Stop.at ?_))
      unfold Stop
      refine append_rows (enc := encV) (k := 4) rfl _ _ 30 rfl Try.underlying30 Try.infoEvt rfl (by decide) (by decide) encV_len encV_one w.heap.size (.slice pv k cv) xs [(r, s, (pa', na', ca'), (pe', ne', ce'))] rfl (HO2.out.alloc _) (some ⟨w2.heap.size, 0, none⟩) 1 1 rfl (fun h => by cases h) (RS.new encV_len w2 _ rfl _ _ rfl _ _ 1 rfl (by decide)) (by have := hxl.out; simp; omega) (by simp; omega) ?_
      intro v' w5 q1 q2 q3
      have HO5 := hide q1
      have HB5 := hide (q3 w (HB2.out.alloc hz2 _))
      have hob := own_blk (HO2.out.alloc (.cells #[.int .i64 r, .int .i64 s, .slice pa' na' ca', .slice pe' ne' ce'] 28))
      have HR5 : Hid (∀ (i : Nat) x e, (xs ++ [(r, s, (pa', na', ca'), (pe', ne', ce'))])[i]? = some x → l[i]? = some e → RelT w5 x e) := by
        intro i x e hx he
        rcases Nat.lt_or_ge i xs.length with h | h
        · rw [List.getElem?_append_left h] at hx
          exact ((HR2.out i x e hx he).below (bel1 w2 _)).grown q2 hob
        · have e2 : i = k := by
            have := (List.getElem?_eq_some_iff.1 hx).1
            simp at this
            have := hxl.out
            omega
          subst e2
          rw [List.getElem?_append_right h, hxl.out, Nat.sub_self] at hx
          simp at hx
          subst hx
          rw [HX.out] at he
          cases he
          exact (RT.out.below (bel1 w2 _)).grown q2 hob
      have hxl5 : Hid ((xs ++ [(r, s, (pa', na', ca'), (pe', ne', ce'))]).length = k + 1) := by unfold Hid; rw [List.length_append, hxl.out]; rfl
      clear q1 q2 q3 hob
      go_wp2
      go_roundw
      case rel => exact ⟨k + 1, _, by omega, by go_num, hxl5, HO5, HR5, HB5⟩
      case measure => simp [intOf]; omega
    · have hkn : k = n := by omega
      have hxn : Hid (xs.length = n) := by unfold Hid; rw [hxl.out, hkn]
      have hkz : ¬ (k : Int) < (n : Int) := by omega
      rcases hO.out.rowE with ⟨hx0, hv0⟩ | ⟨g, cap', hv, hNg, hg, hc1, hc2, hC, hF, hT⟩
      · have h0 : n = 0 := by rw [← hxn.out, hx0]; rfl
        have hl0 : l = [] := List.eq_nil_of_length_eq_zero (by rw [hlen.out, h0])
        have HE : Hid (n = 0 ∧ l = []) := ⟨h0, hl0⟩
        subst hv0
        clear hkn h0 hl0 hx0
        go_wp2_with (go_at_call 54; refine Stop.at ?_)
        unfold Stop
        refine (sort_nil _ _).mono ?_
        rintro ex w2 ⟨rfl, rfl⟩
        go_wp2
        go_ret
        refine ⟨none, 0, by rw [HE.out.1]; rfl, ?_, by rw [HE.out.1]; exact CP.none0, hB.out⟩
        rw [HE.out.1, HE.out.2]
        exact EVS.nil _ _
      · rw [hxn.out] at hv hc1
        subst hv
        have hgT : ∀ (p : Option Addr) (t : TypeId), TYB wr p t → t ≠ 28 → ∀ a, p = some a → a.block ≠ g := fun p t ht hne a ha e => by
          refine ht.ne (r := some g) (t' := 28) (fun g' hg' => ?_) hne a ha (by rw [e])
          cases hg'
          exact hT
        have HS := hide (sortE_any w.heap.size g cap' xs l wr n hxn.out hlen.out hNg hg hn hC hF (fun i x e hx he => by
          have q := hRl.out i x e hx he
          exact ⟨q.1, hgT _ _ q.2.1 (by decide), hgT _ _ q.2.2 (by decide)⟩))
        have HCP : Hid (CP (some ⟨g, 0, none⟩) n cap') := ⟨hc1, hc2, fun h => by cases h⟩
        clear hkn hC hF hT hgT hc1 hc2 hNg
        go_wp2_with (go_at_call 54; refine Stop.at ?_)
        unfold Stop
        refine HS.out.mono ?_
        rintro ex w2 ⟨rfl, hb2, hev⟩
        have HB2 := hide hb2
        have HEV := hide hev
        clear hb2 hev
        go_wp2
        go_ret
        exact ⟨_, _, rfl, HEV.out, HCP.out, hB.out.trans HB2.out⟩
end Go.Proofs.Ytooggheoaglbeaa

/- Which effects may be, by the document. -/
namespace Go.Proofs.Ytooggheoaglbeaa
open Go.RowKit
set_option linter.unusedVariables false

theorem may_yes {b : Bool} {k o n t : Int} {kl wl : Nat} (hf : mayS k o n t kl wl = b) (h : (1 ≤ kl ∧ kl ≤ 32 ∧ 0 ≤ o ∧ o ≤ 15) ∧ (((k = 1 ∨ k = 2) ∧ n = 0 ∧ t = 0 ∧ wl = 0) ∨ ((k = 3 ∨ k = 4) ∧ 1 ≤ n ∧ n ≤ 1000 ∧ t = 0 ∧ wl = 0) ∨ (k = 5 ∧ 1 ≤ n ∧ n ≤ 1000 ∧ 1 ≤ t ∧ t ≤ 5 ∧ wl = 0) ∨ (k = 6 ∧ n = 0 ∧ t = 0 ∧ wl ≤ 64))) : true = b := by
  rw [← hf]; symm; rw [mayS_iff, fits_iff]; exact h
set_option maxHeartbeats 4000000 in
theorem mayEff1 (o n t : Int) (sk sw : ByteArray) (b : Bool) (hf : mayS 1 o n t sk.size sw.size = b) (w : World) (h1 : 1 ≤ sk.size) (h2 : (sk.size : Int) ≤ 32) (h3 : 0 ≤ o) (h4 : o ≤ 15) :
    Calls Try.prog 11 #[.agg #[.int .i64 1, .int .i64 o, .string sk, .int .i64 n, .int .i64 t, .string sw]] w fun e w' => e = .returned (.bool b) ∧ Gr w w' := by
  have HF := hide hf
  clear hf
  have hE : sk.toList.isEmpty = false := by rw [isE, decide_eq_false_iff_not]; omega
  have hW := isE sw
  by_cases h5 : sw.size = 0
  · have h6 : sw.toList.isEmpty = true := by rw [isE]; simp [h5]
    clear hW
    go_enter Try.func11, Try.ntmps11
    go_wp2 <;> go_ret <;> (refine ⟨retB ?_, (Gr.refl w).alloc _⟩) <;> (try simp only [bne_iff_ne, ne_eq, bne_eq_false_iff_eq] at *) <;> first | (refine may_no HF.out ?_; omega) | (refine may_if HF.out (isE sw) ?_; omega) | (refine may_if (p := (sw.size : Int) ≤ 64) HF.out ?_ ?_ <;> first | rfl | omega) | (refine may_yes HF.out ?_; omega)
  · have h6 : sw.toList.isEmpty = false := by rw [isE]; simp [h5]
    clear hW
    go_enter Try.func11, Try.ntmps11
    go_wp2 <;> go_ret <;> (refine ⟨retB ?_, (Gr.refl w).alloc _⟩) <;> (try simp only [bne_iff_ne, ne_eq, bne_eq_false_iff_eq] at *) <;> first | (refine may_no HF.out ?_; omega) | (refine may_if HF.out (isE sw) ?_; omega) | (refine may_if (p := (sw.size : Int) ≤ 64) HF.out ?_ ?_ <;> first | rfl | omega) | (refine may_yes HF.out ?_; omega)
set_option maxHeartbeats 4000000 in
theorem mayEff2 (o n t : Int) (sk sw : ByteArray) (b : Bool) (hf : mayS 2 o n t sk.size sw.size = b) (w : World) (h1 : 1 ≤ sk.size) (h2 : (sk.size : Int) ≤ 32) (h3 : 0 ≤ o) (h4 : o ≤ 15) :
    Calls Try.prog 11 #[.agg #[.int .i64 2, .int .i64 o, .string sk, .int .i64 n, .int .i64 t, .string sw]] w fun e w' => e = .returned (.bool b) ∧ Gr w w' := by
  have HF := hide hf
  clear hf
  have hE : sk.toList.isEmpty = false := by rw [isE, decide_eq_false_iff_not]; omega
  have hW := isE sw
  by_cases h5 : sw.size = 0
  · have h6 : sw.toList.isEmpty = true := by rw [isE]; simp [h5]
    clear hW
    go_enter Try.func11, Try.ntmps11
    go_wp2 <;> go_ret <;> (refine ⟨retB ?_, (Gr.refl w).alloc _⟩) <;> (try simp only [bne_iff_ne, ne_eq, bne_eq_false_iff_eq] at *) <;> first | (refine may_no HF.out ?_; omega) | (refine may_if HF.out (isE sw) ?_; omega) | (refine may_if (p := (sw.size : Int) ≤ 64) HF.out ?_ ?_ <;> first | rfl | omega) | (refine may_yes HF.out ?_; omega)
  · have h6 : sw.toList.isEmpty = false := by rw [isE]; simp [h5]
    clear hW
    go_enter Try.func11, Try.ntmps11
    go_wp2 <;> go_ret <;> (refine ⟨retB ?_, (Gr.refl w).alloc _⟩) <;> (try simp only [bne_iff_ne, ne_eq, bne_eq_false_iff_eq] at *) <;> first | (refine may_no HF.out ?_; omega) | (refine may_if HF.out (isE sw) ?_; omega) | (refine may_if (p := (sw.size : Int) ≤ 64) HF.out ?_ ?_ <;> first | rfl | omega) | (refine may_yes HF.out ?_; omega)
set_option maxHeartbeats 4000000 in
theorem mayEff3 (o n t : Int) (sk sw : ByteArray) (b : Bool) (hf : mayS 3 o n t sk.size sw.size = b) (w : World) (h1 : 1 ≤ sk.size) (h2 : (sk.size : Int) ≤ 32) (h3 : 0 ≤ o) (h4 : o ≤ 15) :
    Calls Try.prog 11 #[.agg #[.int .i64 3, .int .i64 o, .string sk, .int .i64 n, .int .i64 t, .string sw]] w fun e w' => e = .returned (.bool b) ∧ Gr w w' := by
  have HF := hide hf
  clear hf
  have hE : sk.toList.isEmpty = false := by rw [isE, decide_eq_false_iff_not]; omega
  have hW := isE sw
  by_cases h5 : sw.size = 0
  · have h6 : sw.toList.isEmpty = true := by rw [isE]; simp [h5]
    clear hW
    go_enter Try.func11, Try.ntmps11
    go_wp2 <;> go_ret <;> (refine ⟨retB ?_, (Gr.refl w).alloc _⟩) <;> (try simp only [bne_iff_ne, ne_eq, bne_eq_false_iff_eq] at *) <;> first | (refine may_no HF.out ?_; omega) | (refine may_if HF.out (isE sw) ?_; omega) | (refine may_if (p := (sw.size : Int) ≤ 64) HF.out ?_ ?_ <;> first | rfl | omega) | (refine may_yes HF.out ?_; omega)
  · have h6 : sw.toList.isEmpty = false := by rw [isE]; simp [h5]
    clear hW
    go_enter Try.func11, Try.ntmps11
    go_wp2 <;> go_ret <;> (refine ⟨retB ?_, (Gr.refl w).alloc _⟩) <;> (try simp only [bne_iff_ne, ne_eq, bne_eq_false_iff_eq] at *) <;> first | (refine may_no HF.out ?_; omega) | (refine may_if HF.out (isE sw) ?_; omega) | (refine may_if (p := (sw.size : Int) ≤ 64) HF.out ?_ ?_ <;> first | rfl | omega) | (refine may_yes HF.out ?_; omega)
set_option maxHeartbeats 4000000 in
theorem mayEff4 (o n t : Int) (sk sw : ByteArray) (b : Bool) (hf : mayS 4 o n t sk.size sw.size = b) (w : World) (h1 : 1 ≤ sk.size) (h2 : (sk.size : Int) ≤ 32) (h3 : 0 ≤ o) (h4 : o ≤ 15) :
    Calls Try.prog 11 #[.agg #[.int .i64 4, .int .i64 o, .string sk, .int .i64 n, .int .i64 t, .string sw]] w fun e w' => e = .returned (.bool b) ∧ Gr w w' := by
  have HF := hide hf
  clear hf
  have hE : sk.toList.isEmpty = false := by rw [isE, decide_eq_false_iff_not]; omega
  have hW := isE sw
  by_cases h5 : sw.size = 0
  · have h6 : sw.toList.isEmpty = true := by rw [isE]; simp [h5]
    clear hW
    go_enter Try.func11, Try.ntmps11
    go_wp2 <;> go_ret <;> (refine ⟨retB ?_, (Gr.refl w).alloc _⟩) <;> (try simp only [bne_iff_ne, ne_eq, bne_eq_false_iff_eq] at *) <;> first | (refine may_no HF.out ?_; omega) | (refine may_if HF.out (isE sw) ?_; omega) | (refine may_if (p := (sw.size : Int) ≤ 64) HF.out ?_ ?_ <;> first | rfl | omega) | (refine may_yes HF.out ?_; omega)
  · have h6 : sw.toList.isEmpty = false := by rw [isE]; simp [h5]
    clear hW
    go_enter Try.func11, Try.ntmps11
    go_wp2 <;> go_ret <;> (refine ⟨retB ?_, (Gr.refl w).alloc _⟩) <;> (try simp only [bne_iff_ne, ne_eq, bne_eq_false_iff_eq] at *) <;> first | (refine may_no HF.out ?_; omega) | (refine may_if HF.out (isE sw) ?_; omega) | (refine may_if (p := (sw.size : Int) ≤ 64) HF.out ?_ ?_ <;> first | rfl | omega) | (refine may_yes HF.out ?_; omega)
set_option maxHeartbeats 4000000 in
theorem mayEff5 (o n t : Int) (sk sw : ByteArray) (b : Bool) (hf : mayS 5 o n t sk.size sw.size = b) (w : World) (h1 : 1 ≤ sk.size) (h2 : (sk.size : Int) ≤ 32) (h3 : 0 ≤ o) (h4 : o ≤ 15) :
    Calls Try.prog 11 #[.agg #[.int .i64 5, .int .i64 o, .string sk, .int .i64 n, .int .i64 t, .string sw]] w fun e w' => e = .returned (.bool b) ∧ Gr w w' := by
  have HF := hide hf
  clear hf
  have hE : sk.toList.isEmpty = false := by rw [isE, decide_eq_false_iff_not]; omega
  have hW := isE sw
  by_cases h5 : sw.size = 0
  · have h6 : sw.toList.isEmpty = true := by rw [isE]; simp [h5]
    clear hW
    go_enter Try.func11, Try.ntmps11
    go_wp2 <;> go_ret <;> (refine ⟨retB ?_, (Gr.refl w).alloc _⟩) <;> (try simp only [bne_iff_ne, ne_eq, bne_eq_false_iff_eq] at *) <;> first | (refine may_no HF.out ?_; omega) | (refine may_if HF.out (isE sw) ?_; omega) | (refine may_if (p := (sw.size : Int) ≤ 64) HF.out ?_ ?_ <;> first | rfl | omega) | (refine may_yes HF.out ?_; omega)
  · have h6 : sw.toList.isEmpty = false := by rw [isE]; simp [h5]
    clear hW
    go_enter Try.func11, Try.ntmps11
    go_wp2 <;> go_ret <;> (refine ⟨retB ?_, (Gr.refl w).alloc _⟩) <;> (try simp only [bne_iff_ne, ne_eq, bne_eq_false_iff_eq] at *) <;> first | (refine may_no HF.out ?_; omega) | (refine may_if HF.out (isE sw) ?_; omega) | (refine may_if (p := (sw.size : Int) ≤ 64) HF.out ?_ ?_ <;> first | rfl | omega) | (refine may_yes HF.out ?_; omega)
set_option maxHeartbeats 4000000 in
theorem mayEff6 (o n t : Int) (sk sw : ByteArray) (b : Bool) (hf : mayS 6 o n t sk.size sw.size = b) (w : World) (h1 : 1 ≤ sk.size) (h2 : (sk.size : Int) ≤ 32) (h3 : 0 ≤ o) (h4 : o ≤ 15) :
    Calls Try.prog 11 #[.agg #[.int .i64 6, .int .i64 o, .string sk, .int .i64 n, .int .i64 t, .string sw]] w fun e w' => e = .returned (.bool b) ∧ Gr w w' := by
  have HF := hide hf
  clear hf
  have hE : sk.toList.isEmpty = false := by rw [isE, decide_eq_false_iff_not]; omega
  have hW := isE sw
  by_cases h5 : sw.size = 0
  · have h6 : sw.toList.isEmpty = true := by rw [isE]; simp [h5]
    clear hW
    go_enter Try.func11, Try.ntmps11
    go_wp2 <;> go_ret <;> (refine ⟨retB ?_, (Gr.refl w).alloc _⟩) <;> (try simp only [bne_iff_ne, ne_eq, bne_eq_false_iff_eq] at *) <;> first | (refine may_no HF.out ?_; omega) | (refine may_if HF.out (isE sw) ?_; omega) | (refine may_if (p := (sw.size : Int) ≤ 64) HF.out ?_ ?_ <;> first | rfl | omega) | (refine may_yes HF.out ?_; omega)
  · have h6 : sw.toList.isEmpty = false := by rw [isE]; simp [h5]
    clear hW
    go_enter Try.func11, Try.ntmps11
    go_wp2 <;> go_ret <;> (refine ⟨retB ?_, (Gr.refl w).alloc _⟩) <;> (try simp only [bne_iff_ne, ne_eq, bne_eq_false_iff_eq] at *) <;> first | (refine may_no HF.out ?_; omega) | (refine may_if HF.out (isE sw) ?_; omega) | (refine may_if (p := (sw.size : Int) ≤ 64) HF.out ?_ ?_ <;> first | rfl | omega) | (refine may_yes HF.out ?_; omega)
set_option maxHeartbeats 4000000 in
theorem MayEffect_any (k o n t : Int) (sk sw : ByteArray) (b : Bool) (hf : mayS k o n t sk.size sw.size = b) (w : World) :
    Calls Try.prog 11 #[.agg #[.int .i64 k, .int .i64 o, .string sk, .int .i64 n, .int .i64 t, .string sw]] w fun e w' => e = .returned (.bool b) ∧ Gr w w' := by
  have HF := hide hf
  by_cases h1 : sk.size = 0
  · have hE : sk.toList.isEmpty = true := by rw [isE]; simp [h1]
    clear hf
    go_enter Try.func11, Try.ntmps11
    go_wp2
    go_ret
    exact ⟨retB (may_no HF.out (by omega)), (Gr.refl w).alloc _⟩
  · have hE : sk.toList.isEmpty = false := by rw [isE]; simp [h1]
    by_cases h2 : (sk.size : Int) > 32
    · clear hf
      go_enter Try.func11, Try.ntmps11
      go_wp2
      go_ret
      exact ⟨retB (may_no HF.out (by omega)), (Gr.refl w).alloc _⟩
    · skip
      by_cases h3 : o < 0
      · clear hf
        go_enter Try.func11, Try.ntmps11
        go_wp2
        go_ret
        exact ⟨retB (may_no HF.out (by omega)), (Gr.refl w).alloc _⟩
      · skip
        by_cases h4 : o > 15
        · clear hf
          go_enter Try.func11, Try.ntmps11
          go_wp2
          go_ret
          exact ⟨retB (may_no HF.out (by omega)), (Gr.refl w).alloc _⟩
        · skip
          by_cases h5 : k < 1
          · clear hf
            go_enter Try.func11, Try.ntmps11
            go_wp2
            go_ret
            exact ⟨retB (may_no HF.out (by omega)), (Gr.refl w).alloc _⟩
          · skip
            by_cases h6 : k > 6
            · clear hf
              go_enter Try.func11, Try.ntmps11
              go_wp2
              go_ret
              exact ⟨retB (may_no HF.out (by omega)), (Gr.refl w).alloc _⟩
            · skip
              have h7 : k = 1 ∨ k = 2 ∨ k = 3 ∨ k = 4 ∨ k = 5 ∨ k = 6 := by omega
              rcases h7 with rfl | rfl | rfl | rfl | rfl | rfl
              · exact mayEff1 o n t sk sw b hf w (by omega) (by omega) (by omega) (by omega)
              · exact mayEff2 o n t sk sw b hf w (by omega) (by omega) (by omega) (by omega)
              · exact mayEff3 o n t sk sw b hf w (by omega) (by omega) (by omega) (by omega)
              · exact mayEff4 o n t sk sw b hf w (by omega) (by omega) (by omega) (by omega)
              · exact mayEff5 o n t sk sw b hf w (by omega) (by omega) (by omega) (by omega)
              · exact mayEff6 o n t sk sw b hf w (by omega) (by omega) (by omega) (by omega)
end Go.Proofs.Ytooggheoaglbeaa

