/- The theorem of layer 9's set, 2: all events, cleaned or not, and what the document reckons of them. -/
import Derived.Test.YtiodlpoeifmldaaZ1
namespace Go.Proofs.Ytiodlpoeifmldaa
set_option linter.unusedVariables false
def standsB (l : List Evt) (o : Int) (k : ByteArray) (e : Evt) : Bool := doesB e 1 o k && l.all fun f => decide (f.1 = e.1) || !(doesB f 2 o k) || ahE f e
def live9B (l : List Evt) (o : Int) (k : ByteArray) (e : Evt) : Bool := (standsB l o k e && !(doesB e 2 o k)) && !(l.any fun f => ahE e f && standsB l o k f && !(doesB f 2 o k))
/-- The adds of a key that all drops of it are ahead of, and that are ahead of no other such. -/
def liveL9 (l : List Evt) (o : Int) (k : ByteArray) : List Dot := ordD ((l.filter (live9B l o k)).map (·.1))
theorem dot_inj {l : List Evt} (hn : (l.map (·.1)).Nodup) {e f : Evt} (he : e ∈ l) (hf : f ∈ l) (h : f.1 = e.1) : f = e := by
  obtain ⟨i, hi⟩ := List.mem_iff_getElem?.1 hf
  obtain ⟨j, hj⟩ := List.mem_iff_getElem?.1 he
  have e1 : (l.map (·.1))[i]? = some e.1 := by rw [List.getElem?_map, hi]; simp [h]
  have e2 : (l.map (·.1))[j]? = some e.1 := by rw [List.getElem?_map, hj]; rfl
  have := (List.getElem?_inj (List.getElem?_eq_some_iff.1 e1).1 hn).1 (e1.trans e2.symm)
  subst this
  rw [hi] at hj
  exact Option.some.inj hj
theorem standsB_iff {l : List Evt} (hn : (l.map (·.1)).Nodup) {o : Int} {k : ByteArray} {e : Evt} (he : e ∈ l) : standsB l o k e = true ↔ Stands l o k e := by
  unfold standsB Stands
  simp only [Bool.and_eq_true, List.all_eq_true, Bool.or_eq_true, decide_eq_true_eq, Bool.not_eq_true']
  constructor
  · rintro ⟨h1, h2⟩
    refine ⟨h1, fun f hf hne hd => ?_⟩
    rcases h2 f hf with (q | q) | q
    · exact absurd (dot_inj hn he hf q) hne
    · rw [hd] at q; cases q
    · exact q
  · rintro ⟨h1, h2⟩
    refine ⟨h1, fun f hf => ?_⟩
    by_cases hq : f.1 = e.1
    · exact .inl (.inl hq)
    · rcases hd : doesB f 2 o k with _ | _
      · exact .inl (.inr rfl)
      · exact .inr (h2 f hf (fun q => hq (by rw [q])) hd)
theorem live9B_iff {l : List Evt} (hn : (l.map (·.1)).Nodup) {o : Int} {k : ByteArray} {e : Evt} (he : e ∈ l) : live9B l o k e = true ↔ Live9 l o k e := by
  unfold live9B Live9
  rw [Bool.and_eq_true, Bool.and_eq_true, standsB_iff hn he, Bool.not_eq_true', Bool.not_eq_true', List.any_eq_false]
  constructor
  · rintro ⟨h1, h2⟩
    refine ⟨h1, fun f hf q => h2 f hf ?_⟩
    rw [q.1, (standsB_iff hn hf).2 q.2.1, q.2.2]
    rfl
  · rintro ⟨h1, h2⟩
    refine ⟨h1, fun f hf q => h2 f hf ?_⟩
    rw [Bool.and_eq_true, Bool.and_eq_true, Bool.not_eq_true'] at q
    exact ⟨q.1.1, (standsB_iff hn hf).1 q.1.2, q.2⟩
theorem liveL9_srt (l : List Evt) (o : Int) (k : ByteArray) : SrtD (liveL9 l o k) := ordD_srt _
theorem liveL9_mem {l : List Evt} (hn : (l.map (·.1)).Nodup) {o : Int} {k : ByteArray} {d : Dot} : d ∈ liveL9 l o k ↔ ∃ e ∈ l, Live9 l o k e ∧ e.1 = d := by
  unfold liveL9
  rw [ordD_mem, List.mem_map]
  constructor
  · rintro ⟨e, he, rfl⟩
    obtain ⟨h1, h2⟩ := List.mem_filter.1 he
    exact ⟨e, h1, (live9B_iff hn h1).1 h2, rfl⟩
  · rintro ⟨e, he, h, rfl⟩
    exact ⟨e, List.mem_filter.2 ⟨he, (live9B_iff hn he).2 h⟩, rfl⟩
/-- What is said is told by which events there are. -/
theorem live9_same {l m : List Evt} (h : ∀ e, e ∈ l ↔ e ∈ m) {o : Int} {k : ByteArray} {e : Evt} : Live9 l o k e ↔ Live9 m o k e := by
  have st : ∀ f, Stands l o k f ↔ Stands m o k f := fun f => ⟨fun q => ⟨q.1, fun g hg => q.2 g ((h g).2 hg)⟩, fun q => ⟨q.1, fun g hg => q.2 g ((h g).1 hg)⟩⟩
  unfold Live9
  rw [st]
  exact ⟨fun q => ⟨q.1, fun f hf r => q.2 f ((h f).2 hf) ⟨r.1, (st f).2 r.2.1, r.2.2⟩⟩, fun q => ⟨q.1, fun f hf r => q.2 f ((h f).1 hf) ⟨r.1, (st f).1 r.2.1, r.2.2⟩⟩⟩
/-- The set behind the first events. -/
def foldY (o : Int) (es : List Evt) : List En := es.foldl (evY o) []
theorem foldY_cp (o : Int) : ∀ (es : List Evt) (s : List En), Cp s → Cp (es.foldl (evY o) s)
  | [], _, h => h
  | e :: es, s, h => foldY_cp o es _ (h.ev o e)
theorem foldY_cp0 (o : Int) (es : List Evt) : Cp (foldY o es) := foldY_cp o es _ Cp.nil
theorem foldY_step {o : Int} {es : List Evt} {i : Nat} {e : Evt} (hx : es[i]? = some e) : foldY o (es.take (i + 1)) = evY o (foldY o (es.take i)) e := by
  unfold foldY
  rw [take_snocL hx, List.foldl_append]
  rfl
theorem fold_says {es : List Evt} (hm : ∀ e ∈ es, mayE e = true) (ho : OrdP es) (hn : es.Nodup) (hw : WholeP es) (o : Int) (k : ByteArray) : ∀ i, i ≤ es.length → Says (es.take i) o k (getP (foldY o (es.take i)) k)
  | 0, _ => by simp [foldY, getP]; exact Says.nil o k
  | i + 1, hi => by
    have hx : es[i]? = some es[i] := List.getElem?_eq_getElem (by omega)
    have sub : ∀ a ∈ es.take i ++ [es[i]], a ∈ es := by
      intro a ha
      rw [← take_snocL hx] at ha
      exact List.mem_of_mem_take ha
    rw [foldY_step hx, evY_get (foldY_cp0 o _) (hm _ (List.getElem_mem _)), take_snocL hx]
    refine (fold_says hm ho hn hw o k i (by omega)).step (fun a ha f hf q => hw a (sub a ha) f (sub f hf) q) (fun a ha => hm a (sub a ha)) ?_ ?_
    · intro q
      obtain ⟨j, hj⟩ := List.mem_iff_getElem?.1 q
      rw [List.getElem?_take] at hj
      split at hj
      · rename_i hji
        have hjl : j < es.length := by omega
        have := (List.getElem?_inj hjl hn).1 (hj.trans hx.symm)
        omega
      · cases hj
    · intro f hf
      obtain ⟨j, hj⟩ := List.mem_iff_getElem?.1 hf
      rw [List.getElem?_take] at hj
      split at hj
      · exact ho j i f _ (by assumption) hj hx
      · cases hj
/-- The set behind the first events, cleaned behind each by a clock. -/
def foldC (o : Int) (kn : Nat → Option (List Int)) (es : List Evt) : Nat → List En
  | 0 => []
  | i + 1 => match es[i]? with
    | none => foldC o kn es i
    | some e => match kn i with
      | none => evY o (foldC o kn es i) e
      | some c => mapP (cleanF c) (evY o (foldC o kn es i) e)
theorem cleanF_nil (c : List Int) : cleanF c ([], []) = ([], []) := rfl
theorem cleanF_srt (c : List Int) (p : Pr) (h : SrtD p.1 ∧ SrtD p.2) : SrtD (cleanF c p).1 ∧ SrtD (cleanF c p).2 := ⟨h.1, srt_left h.2 c⟩
theorem foldC_cp (o : Int) (kn : Nat → Option (List Int)) (es : List Evt) : ∀ i, Cp (foldC o kn es i)
  | 0 => Cp.nil
  | i + 1 => by
    have ih := foldC_cp o kn es i
    unfold foldC
    split
    · exact ih
    · split
      · exact ih.ev o _
      · exact (ih.ev o _).map (cleanF_nil _) (cleanF_srt _)
theorem foldC_alike {es : List Evt} (hm : ∀ e ∈ es, mayE e = true) (o : Int) (kn : Nat → Option (List Int)) (hk : ∀ i c, kn i = some c → ∀ e ∈ es.drop (i + 1), wth c e.2.1) (k : ByteArray) : ∀ i, i ≤ es.length → AlikeP (es.drop i) (getP (foldY o (es.take i)) k) (getP (foldC o kn es i) k)
  | 0, _ => by simp [foldY, foldC]; exact AlikeP.refl _ _
  | i + 1, hi => by
    have hx : es[i]? = some es[i] := List.getElem?_eq_getElem (by omega)
    have ih := foldC_alike hm o kn hk k i (by omega)
    rw [List.drop_eq_getElem_cons (by omega)] at ih
    have hmi := hm _ (List.getElem_mem (l := es) (n := i) (by omega))
    have q := ih.next o k
    rw [foldY_step hx, evY_get (foldY_cp0 o _) hmi]
    unfold foldC
    rw [hx]
    simp only
    split
    · rw [evY_get (foldC_cp o kn es i) hmi]
      exact q
    · rename_i c hc
      rw [get_map (cleanF_nil c) ((foldC_cp o kn es i).ev o _).srt, evY_get (foldC_cp o kn es i) hmi]
      exact q.clean (hk i c hc)
theorem plainF_nil : plainF ([], []) = ([], []) := rfl
theorem plainF_srt (p : Pr) (h : SrtD p.1 ∧ SrtD p.2) : SrtD (plainF p).1 ∧ SrtD (plainF p).2 := ⟨h.1, List.Pairwise.nil⟩
/-- All keys, each with its Live. -/
def putAll9 (l : List Evt) (o : Int) (ks : List ByteArray) : List En := ks.foldl (fun w k => putP w k (liveL9 l o k, [])) []
theorem cp_put9 {s : List En} (h : Cp s) (l : List Evt) (o : Int) (k : ByteArray) : Cp (putP s k (liveL9 l o k, [])) := h.put k (p := (liveL9 l o k, [])) ⟨liveL9_srt l o k, List.Pairwise.nil⟩
theorem putAll9_cp (l : List Evt) (o : Int) : ∀ (ks : List ByteArray) (s : List En), Cp s → Cp (ks.foldl (fun w k => putP w k (liveL9 l o k, [])) s)
  | [], _, h => h
  | k :: ks, s, h => putAll9_cp l o ks _ (cp_put9 h l o k)
theorem putAll9_out (l : List Evt) (o : Int) (k : ByteArray) : ∀ (ks : List ByteArray) (s : List En), Cp s → k ∉ ks → getP (ks.foldl (fun w k => putP w k (liveL9 l o k, [])) s) k = getP s k
  | [], _, _, _ => rfl
  | q :: ks, s, h, hk => by
    rw [List.foldl_cons, putAll9_out l o k ks _ (cp_put9 h l o q) (fun m => hk (List.mem_cons_of_mem _ m)), getP_put h.srt, if_neg]
    intro e
    subst e
    exact hk List.mem_cons_self
theorem putAll9_in (l : List Evt) (o : Int) (k : ByteArray) : ∀ (ks : List ByteArray) (s : List En), Cp s → k ∈ ks → getP (ks.foldl (fun w k => putP w k (liveL9 l o k, [])) s) k = (liveL9 l o k, [])
  | [], _, _, hk => by cases hk
  | q :: ks, s, h, hk => by
    rw [List.foldl_cons]
    by_cases m : k ∈ ks
    · exact putAll9_in l o k ks _ (cp_put9 h l o q) m
    · rw [putAll9_out l o k ks _ (cp_put9 h l o q) m, getP_put h.srt]
      rcases List.mem_cons.1 hk with rfl | h'
      · rw [if_pos rfl]
      · exact absurd h' m
/-- What any set with these Live is, plain. -/
theorem plain_is {l : List Evt} (hn : (l.map (·.1)).Nodup) {o : Int} {s : List En} (hs : Cp s) (h : ∀ k, (getP s k).1 = liveL9 l o k) : mapP plainF s = putAll9 l o (keysE l) := by
  have c1 := hs.map plainF_nil plainF_srt
  have c2 : Cp (putAll9 l o (keysE l)) := putAll9_cp l o _ _ Cp.nil
  refine setP_ext c1.srt c2.srt c1.ne c2.ne (fun k => ?_)
  rw [get_map plainF_nil hs.srt]
  unfold plainF
  rw [h k]
  unfold putAll9
  by_cases hk : k ∈ keysE l
  · rw [putAll9_in l o k _ _ Cp.nil hk]
  · rw [putAll9_out l o k _ _ Cp.nil hk]
    have : liveL9 l o k = [] := by
      apply List.eq_nil_iff_forall_not_mem.2
      intro d hd
      obtain ⟨e, he, hl, _⟩ := (liveL9_mem hn).1 hd
      obtain ⟨x, hx, _, _, h3⟩ := doesB_iff.1 hl.1.1.1
      exact hk (List.mem_flatMap.2 ⟨e, he, List.mem_map.2 ⟨x, hx, h3⟩⟩)
    rw [this]
    rfl
/-- The theorem of the set: plain, it is told by which events there are alone; so it is, if it is cleaned in between by what all later events know. -/
theorem rw_meet {l es : List Evt} (hm : ∀ e ∈ l, mayE e = true) (hnl : (l.map (·.1)).Nodup) (hs : ∀ e, e ∈ es ↔ e ∈ l) (hn : es.Nodup) (ho : OrdP es) (hw : ∀ e ∈ l, ∀ f ∈ l, ahE f e = true → wth f.2.1 e.2.1) (o : Int) (kn : Nat → Option (List Int)) (hk : ∀ i c, kn i = some c → ∀ e ∈ es.drop (i + 1), wth c e.2.1) :
    mapP plainF (foldY o es) = putAll9 l o (keysE l) ∧ mapP plainF (foldC o kn es es.length) = putAll9 l o (keysE l) := by
  have hme : ∀ e ∈ es, mayE e = true := fun e he => hm e ((hs e).1 he)
  have hwe : WholeP es := fun e he f hf q => hw e ((hs e).1 he) f ((hs f).1 hf) q
  have live : ∀ k, (getP (foldY o es) k).1 = liveL9 l o k := by
    intro k
    have q := fold_says hme ho hn hwe o k es.length (Nat.le_refl _)
    rw [List.take_length] at q
    refine srt_ext ((foldY_cp o es _ Cp.nil).row k).1 (liveL9_srt l o k) (fun d => ?_)
    rw [q.live d, liveL9_mem hnl]
    exact ⟨fun ⟨e, he, h1, h2⟩ => ⟨e, (hs e).1 he, (live9_same hs).1 h1, h2⟩, fun ⟨e, he, h1, h2⟩ => ⟨e, (hs e).2 he, (live9_same hs).2 h1, h2⟩⟩
  refine ⟨plain_is hnl (foldY_cp o es _ Cp.nil) live, plain_is hnl (foldC_cp o kn es _) (fun k => ?_)⟩
  have q := foldC_alike hme o kn hk k es.length (Nat.le_refl _)
  rw [List.take_length] at q
  rw [← q.1]
  exact live k
end Go.Proofs.Ytiodlpoeifmldaa
