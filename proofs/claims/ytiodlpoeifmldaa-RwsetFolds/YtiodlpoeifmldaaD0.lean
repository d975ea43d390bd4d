/- The theorem of the set (layer 8), in plain mathematics. -/
import Derived.Test.YtiodlpoeifmldaaAB5
import Derived.Test.YtiodlpoeifmldaaC2
namespace Go.Proofs.Ytiodlpoeifmldaa
set_option linter.unusedVariables false
/-- An effect's key. -/
def kOf (x : Eff) : ByteArray := strOfNums x.2.2.1
/-- Does an event do something of a kind to a key of a thing? -/
def doesB (e : Evt) (kind o : Int) (k : ByteArray) : Bool := e.2.2.any fun x => decide (x.1 = kind) && decide (x.2.1 = o) && decide (kOf x = k)
theorem doesB_iff {e : Evt} {kind o : Int} {k : ByteArray} : doesB e kind o k = true ↔ ∃ x ∈ e.2.2, x.1 = kind ∧ x.2.1 = o ∧ kOf x = k := by
  simp [doesB, and_assoc]
def touchB (e : Evt) (o : Int) (k : ByteArray) : Bool := doesB e 1 o k || doesB e 2 o k
def ahE (a b : Evt) : Bool := ahdB a.1 b.2.1
def liveB (l : List Evt) (o : Int) (k : ByteArray) (e : Evt) : Bool := doesB e 1 o k && !(l.any fun f => ahE e f && touchB f o k)
/-- The adds of a key that are ahead of no other add or drop of it. -/
def liveL (l : List Evt) (o : Int) (k : ByteArray) : List Dot := ordD ((l.filter (liveB l o k)).map (·.1))
theorem liveL_mem {l : List Evt} {o : Int} {k : ByteArray} {d : Dot} : d ∈ liveL l o k ↔ ∃ e ∈ l, liveB l o k e = true ∧ e.1 = d := by
  unfold liveL
  rw [ordD_mem, List.mem_map]
  simp only [List.mem_filter, and_assoc]
theorem liveL_srt (l : List Evt) (o : Int) (k : ByteArray) : SrtD (liveL l o k) := ordD_srt _
theorem liveB_iff {l : List Evt} {o : Int} {k : ByteArray} {e : Evt} : liveB l o k e = true ↔ doesB e 1 o k = true ∧ ∀ f ∈ l, ¬ (ahE e f = true ∧ touchB f o k = true) := by
  simp [liveB]
theorem liveL_rows {l : List Evt} (h : ∀ e ∈ l, mayE e = true) (o : Int) (k : ByteArray) : rowsB (liveL l o k) = true := by
  refine rowsB_iff.2 ⟨fun d hd => ?_, liveL_srt l o k⟩
  obtain ⟨e, he, _, rfl⟩ := liveL_mem.1 hd
  exact (headB_iff.1 (mayE_iff.1 (h e he)).1).1
/-- A key's dots behind an event that touches it. -/
def newL (e : Evt) (o : Int) (k : ByteArray) (l : List Dot) : List Dot := if doesB e 1 o k = true then putD (leftD l e.2.1) e.1 else leftD l e.2.1
theorem mem_left {l : List Dot} {c : List Int} {d : Dot} : d ∈ leftD l c ↔ d ∈ l ∧ getZ c d.1 < d.2 := by simp [leftD]
theorem srt_left {l : List Dot} (h : SrtD l) (c : List Int) : SrtD (leftD l c) := List.Pairwise.filter _ h
theorem srt_new {e : Evt} {o : Int} {k : ByteArray} {l : List Dot} (h : SrtD l) : SrtD (newL e o k l) := by
  unfold newL
  split
  · exact srt_putD (srt_left h _)
  · exact srt_left h _
theorem mem_new {e : Evt} {o : Int} {k : ByteArray} {l : List Dot} {d : Dot} : d ∈ newL e o k l ↔ (doesB e 1 o k = true ∧ d = e.1) ∨ (d ∈ l ∧ getZ e.2.1 d.1 < d.2) := by
  unfold newL
  split
  · rename_i h
    rw [mem_putD, mem_left]
    simp [h]
  · rename_i h
    rw [mem_left]
    simp [h]
theorem own_past {e : Evt} (h : mayE e = true) : getZ e.2.1 e.1.1 = e.1.2 - 1 := (headB_iff.1 (mayE_iff.1 h).1).2.2
theorem may_dot {e : Evt} (h : mayE e = true) : mayD e.1 = true := (headB_iff.1 (mayE_iff.1 h).1).1
theorem may_past {e : Evt} (h : mayE e = true) : mayC e.2.1 = true := (headB_iff.1 (mayE_iff.1 h).1).2.1.1
theorem new_idem {e : Evt} (he : mayE e = true) (o : Int) (k : ByteArray) {l : List Dot} (h : SrtD l) : newL e o k (newL e o k l) = newL e o k l := by
  refine srt_ext (srt_new (srt_new h)) (srt_new h) (fun d => ?_)
  rw [mem_new (l := newL e o k l), mem_new]
  constructor
  · rintro (h1 | ⟨h1, _⟩)
    · exact .inl h1
    · exact h1
  · rintro (h1 | ⟨h1, h2⟩)
    · exact .inl h1
    · exact .inr ⟨.inr ⟨h1, h2⟩, h2⟩
/-- What an effect does. -/
def stepX (e : Evt) (o : Int) (s : List En) (x : Eff) : List En :=
  if x.2.1 = o ∧ x.1 = 1 then addS s (kOf x) e.1 e.2.1 else if x.2.1 = o ∧ x.1 = 2 ∧ doesB e 1 o (kOf x) = false then dropS s (kOf x) e.2.1 else s
def actB (e : Evt) (o : Int) (x : Eff) : Bool := decide (x.2.1 = o ∧ (x.1 = 1 ∨ x.1 = 2 ∧ doesB e 1 o (kOf x) = false))
theorem stepX_put {e : Evt} {o : Int} {x : Eff} (hx : x ∈ e.2.2) (s : List En) : stepX e o s x = if actB e o x = true then putS s (kOf x) (newL e o (kOf x) (getS s (kOf x))) else s := by
  unfold stepX actB newL
  by_cases h1 : x.2.1 = o ∧ x.1 = 1
  · have hd : doesB e 1 o (kOf x) = true := doesB_iff.2 ⟨x, hx, h1.2, h1.1, rfl⟩
    rw [if_pos h1, if_pos (by simp [h1.1, h1.2]), if_pos hd]
    rfl
  · rw [if_neg h1]
    by_cases h2 : x.2.1 = o ∧ x.1 = 2 ∧ doesB e 1 o (kOf x) = false
    · rw [if_pos h2, if_pos (by simp [h2.1, h2.2.1, h2.2.2]), if_neg (by rw [h2.2.2]; simp)]
      rfl
    · rw [if_neg h2, if_neg]
      rw [decide_eq_true_iff]
      rintro ⟨q1, q2 | q2⟩
      · exact h1 ⟨q1, q2⟩
      · exact h2 ⟨q1, q2⟩
/-- A set whose keys rise, each with dots in order. -/
structure Cn (s : List En) : Prop where
  srt : SrtK s
  ne : ∀ x ∈ s, x.2.1 ≠ [] ∧ x.2.2 = []
  row : ∀ k, SrtD (getS s k)
theorem Cn.nil : Cn [] := ⟨List.Pairwise.nil, fun x hx => by simp at hx, fun k => List.Pairwise.nil⟩
theorem Cn.put {s : List En} (h : Cn s) (k : ByteArray) {l : List Dot} (hl : SrtD l) : Cn (putS s k l) := by
  refine ⟨srtK_put h.srt k l, fun x hx => ?_, fun k' => ?_⟩
  · rcases mem_put.1 hx with ⟨h1, _⟩ | ⟨h1, rfl⟩
    · exact h.ne x h1
    · exact ⟨h1, rfl⟩
  · rw [getS_put h.srt]
    split
    · exact hl
    · exact h.row k'
theorem Cn.step {s : List En} (h : Cn s) {e : Evt} {o : Int} {x : Eff} (hx : x ∈ e.2.2) : Cn (stepX e o s x) := by
  rw [stepX_put hx]
  split
  · exact h.put _ (srt_new (h.row _))
  · exact h
theorem Cn.steps {e : Evt} {o : Int} : ∀ {xs : List Eff} {s : List En}, (∀ x ∈ xs, x ∈ e.2.2) → Cn s → Cn (xs.foldl (stepX e o) s)
  | [], _, _, h => h
  | x :: xs, s, hx, h => Cn.steps (xs := xs) (fun y hy => hx y (List.mem_cons_of_mem _ hy)) (h.step (hx x List.mem_cons_self))
theorem steps_get {e : Evt} (he : mayE e = true) {o : Int} (k : ByteArray) : ∀ {xs : List Eff} {s : List En}, (∀ x ∈ xs, x ∈ e.2.2) → Cn s → getS (xs.foldl (stepX e o) s) k = if (∃ x ∈ xs, actB e o x = true ∧ kOf x = k) then newL e o k (getS s k) else getS s k
  | [], s, _, _ => by simp
  | x :: xs, s, hx, h => by
    have hx0 := hx x List.mem_cons_self
    rw [List.foldl_cons, steps_get he k (xs := xs) (fun y hy => hx y (List.mem_cons_of_mem _ hy)) (h.step hx0)]
    have e1 : getS (stepX e o s x) k = if actB e o x = true ∧ kOf x = k then newL e o k (getS s k) else getS s k := by
      rw [stepX_put hx0]
      by_cases ha : actB e o x = true
      · rw [if_pos ha, getS_put h.srt]
        by_cases hk : k = kOf x
        · subst hk; simp [ha]
        · rw [if_neg hk, if_neg (fun q => hk q.2.symm)]
      · rw [if_neg ha, if_neg (fun q => ha q.1)]
    rw [e1]
    by_cases h1 : actB e o x = true ∧ kOf x = k
    · rw [if_pos h1, if_pos (show ∃ y ∈ x :: xs, actB e o y = true ∧ kOf y = k from ⟨x, List.mem_cons_self, h1⟩)]
      split
      · exact new_idem he o k (h.row k)
      · rfl
    · rw [if_neg h1]
      by_cases h2 : ∃ y ∈ xs, actB e o y = true ∧ kOf y = k
      · rw [if_pos h2]
        obtain ⟨y, hy, q⟩ := h2
        rw [if_pos (show ∃ y ∈ x :: xs, actB e o y = true ∧ kOf y = k from ⟨y, List.mem_cons_of_mem _ hy, q⟩)]
      · rw [if_neg h2, if_neg]
        rintro ⟨y, hy, q⟩
        rcases List.mem_cons.1 hy with rfl | hy
        · exact h1 q
        · exact h2 ⟨y, hy, q⟩
theorem act_touch {e : Evt} {o : Int} {k : ByteArray} : (∃ x ∈ e.2.2, actB e o x = true ∧ kOf x = k) ↔ touchB e o k = true := by
  unfold touchB actB
  simp only [Bool.or_eq_true, decide_eq_true_eq]
  constructor
  · rintro ⟨x, hx, ⟨h1, h2 | ⟨h2, _⟩⟩, h3⟩
    · exact .inl (doesB_iff.2 ⟨x, hx, h2, h1, h3⟩)
    · exact .inr (doesB_iff.2 ⟨x, hx, h2, h1, h3⟩)
  · intro h
    by_cases hd : doesB e 1 o k = true
    · obtain ⟨x, hx, h1, h2, h3⟩ := doesB_iff.1 hd
      exact ⟨x, hx, ⟨h2, .inl h1⟩, h3⟩
    · rcases h with h | h
      · exact absurd h hd
      · obtain ⟨x, hx, h1, h2, h3⟩ := doesB_iff.1 h
        refine ⟨x, hx, ⟨h2, .inr ⟨h1, ?_⟩⟩, h3⟩
        rw [h3]
        simpa using hd
/-- What an event does. -/
def evS (o : Int) (s : List En) (e : Evt) : List En := e.2.2.foldl (stepX e o) s
def foldS (o : Int) (es : List Evt) : List En := es.foldl (evS o) []
theorem Cn.ev {s : List En} (h : Cn s) (o : Int) (e : Evt) : Cn (evS o s e) := Cn.steps (fun x hx => hx) h
theorem ev_get {s : List En} (h : Cn s) {o : Int} {e : Evt} (he : mayE e = true) (k : ByteArray) : getS (evS o s e) k = if touchB e o k = true then newL e o k (getS s k) else getS s k := by
  unfold evS
  rw [steps_get he k (fun x hx => hx) h]
  simp only [act_touch]
theorem Cn.fold (o : Int) : ∀ (es : List Evt) (s : List En), Cn s → Cn (es.foldl (evS o) s)
  | [], _, h => h
  | e :: es, s, h => Cn.fold o es _ (h.ev o e)
/-- What an event adds to what is live. -/
theorem live_snoc {P : List Evt} {e : Evt} (hP : ∀ a ∈ P, mayE a = true) (he : mayE e = true) (h1 : ∀ f ∈ P, ahE e f = false) (o : Int) (k : ByteArray) : liveL (P ++ [e]) o k = if touchB e o k = true then newL e o k (liveL P o k) else liveL P o k := by
  have self : ahE e e = false := by
    unfold ahE ahdB
    rw [own_past he]
    simp
    intro _
    omega
  have le : ∀ a ∈ P, (ahE a e = true ↔ ¬ getZ e.2.1 a.1.1 < a.1.2) := by
    intro a ha
    unfold ahE ahdB
    rw [may_dot (hP a ha)]
    simp
  have mem : ∀ d, d ∈ liveL (P ++ [e]) o k ↔ (doesB e 1 o k = true ∧ d = e.1) ∨ (∃ a ∈ P, liveB P o k a = true ∧ a.1 = d ∧ ¬ (ahE a e = true ∧ touchB e o k = true)) := by
    intro d
    rw [liveL_mem]
    constructor
    · rintro ⟨a, ha, hl, rfl⟩
      rw [liveB_iff] at hl
      rcases List.mem_append.1 ha with ha | ha
      · exact .inr ⟨a, ha, liveB_iff.2 ⟨hl.1, fun f hf => hl.2 f (List.mem_append_left _ hf)⟩, rfl, hl.2 e (List.mem_append_right _ List.mem_cons_self)⟩
      · simp at ha
        subst ha
        exact .inl ⟨hl.1, rfl⟩
    · rintro (⟨h, rfl⟩ | ⟨a, ha, hl, rfl, hn⟩)
      · refine ⟨e, List.mem_append_right _ List.mem_cons_self, liveB_iff.2 ⟨h, fun f hf => ?_⟩, rfl⟩
        rcases List.mem_append.1 hf with hf | hf
        · rw [h1 f hf]; simp
        · simp at hf
          subst hf
          rw [self]; simp
      · rw [liveB_iff] at hl
        refine ⟨a, List.mem_append_left _ ha, liveB_iff.2 ⟨hl.1, fun f hf => ?_⟩, rfl⟩
        rcases List.mem_append.1 hf with hf | hf
        · exact hl.2 f hf
        · simp at hf
          subst hf
          exact hn
  by_cases ht : touchB e o k = true
  · rw [if_pos ht]
    refine srt_ext (liveL_srt _ _ _) (srt_new (liveL_srt _ _ _)) (fun d => ?_)
    rw [mem, mem_new, liveL_mem]
    constructor
    · rintro (h | ⟨a, ha, hl, rfl, hn⟩)
      · exact .inl h
      · refine .inr ⟨⟨a, ha, hl, rfl⟩, ?_⟩
        rcases Int.lt_or_le (getZ e.2.1 a.1.1) a.1.2 with q | q
        · exact q
        · exact absurd ⟨(le a ha).2 (by omega), ht⟩ hn
    · rintro (h | ⟨⟨a, ha, hl, rfl⟩, hz⟩)
      · exact .inl h
      · exact .inr ⟨a, ha, hl, rfl, fun q => (le a ha).1 q.1 hz⟩
  · rw [if_neg ht]
    refine srt_ext (liveL_srt _ _ _) (liveL_srt _ _ _) (fun d => ?_)
    have hd : doesB e 1 o k = false := by
      unfold touchB at ht
      simp at ht
      exact ht.1
    rw [mem, liveL_mem, hd]
    constructor
    · rintro (⟨h, _⟩ | ⟨a, ha, hl, rfl, _⟩)
      · cases h
      · exact ⟨a, ha, hl, rfl⟩
    · rintro ⟨a, ha, hl, rfl⟩
      exact .inr ⟨a, ha, hl, rfl, fun q => ht q.2⟩
/-- What is ahead stands ahead. -/
def OrdP (es : List Evt) : Prop := ∀ (i j : Nat) f e, i < j → es[i]? = some f → es[j]? = some e → ahE e f = false
/-- The set behind events in order is told by what is live. -/
theorem fold_live {es : List Evt} (hm : ∀ e ∈ es, mayE e = true) (ho : OrdP es) (o : Int) (k : ByteArray) : ∀ i, i ≤ es.length → getS ((es.take i).foldl (evS o) []) k = liveL (es.take i) o k
  | 0, _ => by simp [getS, liveL, ordD]
  | i + 1, hi => by
    have hx : es[i]? = some es[i] := List.getElem?_eq_getElem (by omega)
    have hmi : mayE es[i] = true := hm _ (List.getElem_mem _)
    rw [take_snocL hx, List.foldl_append, List.foldl_cons, List.foldl_nil, ev_get (Cn.fold o _ _ Cn.nil) hmi, fold_live hm ho o k i (by omega), live_snoc (fun a ha => hm a (List.mem_of_mem_take ha)) hmi]
    intro f hf
    obtain ⟨j, hj⟩ := List.mem_iff_getElem?.1 hf
    rw [List.getElem?_take] at hj
    split at hj
    · exact ho j i f _ (by assumption) hj hx
    · cases hj
theorem live_same {l m : List Evt} (h : ∀ e, e ∈ l ↔ e ∈ m) (o : Int) (k : ByteArray) : liveL l o k = liveL m o k := by
  refine srt_ext (liveL_srt _ _ _) (liveL_srt _ _ _) (fun d => ?_)
  have q : ∀ e, liveB l o k e = true ↔ liveB m o k e = true := by
    intro e
    rw [liveB_iff, liveB_iff]
    exact ⟨fun ⟨a, b⟩ => ⟨a, fun f hf => b f ((h f).2 hf)⟩, fun ⟨a, b⟩ => ⟨a, fun f hf => b f ((h f).1 hf)⟩⟩
  rw [liveL_mem, liveL_mem]
  exact ⟨fun ⟨e, he, h1, h2⟩ => ⟨e, (h e).1 he, (q e).1 h1, h2⟩, fun ⟨e, he, h1, h2⟩ => ⟨e, (h e).2 he, (q e).2 h1, h2⟩⟩
/-- All keys, each with its Live. -/
def keysE (l : List Evt) : List ByteArray := l.flatMap fun e => e.2.2.map kOf
def putAll (l : List Evt) (o : Int) (ks : List ByteArray) : List En := ks.foldl (fun w k => putS w k (liveL l o k)) []
theorem putAll_cn (l : List Evt) (o : Int) : ∀ (ks : List ByteArray) (s : List En), Cn s → Cn (ks.foldl (fun w k => putS w k (liveL l o k)) s)
  | [], _, h => h
  | k :: ks, s, h => putAll_cn l o ks _ (h.put k (liveL_srt l o k))
theorem putAll_out (l : List Evt) (o : Int) (k : ByteArray) : ∀ (ks : List ByteArray) (s : List En), Cn s → k ∉ ks → getS (ks.foldl (fun w k => putS w k (liveL l o k)) s) k = getS s k
  | [], _, _, _ => rfl
  | q :: ks, s, h, hk => by
    rw [List.foldl_cons, putAll_out l o k ks _ (h.put q (liveL_srt l o q)) (fun m => hk (List.mem_cons_of_mem _ m)), getS_put h.srt, if_neg]
    intro e
    subst e
    exact hk List.mem_cons_self
theorem putAll_in (l : List Evt) (o : Int) (k : ByteArray) : ∀ (ks : List ByteArray) (s : List En), Cn s → k ∈ ks → getS (ks.foldl (fun w k => putS w k (liveL l o k)) s) k = liveL l o k
  | [], _, _, hk => by cases hk
  | q :: ks, s, h, hk => by
    rw [List.foldl_cons]
    by_cases m : k ∈ ks
    · exact putAll_in l o k ks _ (h.put q (liveL_srt l o q)) m
    · rw [putAll_out l o k ks _ (h.put q (liveL_srt l o q)) m, getS_put h.srt]
      rcases List.mem_cons.1 hk with rfl | h'
      · rw [if_pos rfl]
      · exact absurd h' m
/-- The theorem of the set. -/
theorem folds_meet {l es : List Evt} (hm : ∀ e ∈ l, mayE e = true) (hs : ∀ e, e ∈ es ↔ e ∈ l) (ho : OrdP es) (o : Int) : foldS o es = putAll l o (keysE l) := by
  have hme : ∀ e ∈ es, mayE e = true := fun e he => hm e ((hs e).1 he)
  have c1 : Cn (foldS o es) := Cn.fold o es _ Cn.nil
  have c2 : Cn (putAll l o (keysE l)) := putAll_cn l o _ _ Cn.nil
  refine set_ext c1.srt c2.srt c1.ne c2.ne (fun k => ?_)
  have e1 : getS (foldS o es) k = liveL l o k := by
    have := fold_live hme ho o k es.length (Nat.le_refl _)
    rw [List.take_length] at this
    unfold foldS
    rw [this]
    exact live_same hs o k
  rw [e1]
  unfold putAll
  by_cases hk : k ∈ keysE l
  · rw [putAll_in l o k _ _ Cn.nil hk]
  · rw [putAll_out l o k _ _ Cn.nil hk]
    have : liveL l o k = [] := by
      apply List.eq_nil_iff_forall_not_mem.2
      intro d hd
      obtain ⟨e, he, hl, _⟩ := liveL_mem.1 hd
      obtain ⟨x, hx, _, _, h3⟩ := doesB_iff.1 (liveB_iff.1 hl).1
      exact hk (List.mem_flatMap.2 ⟨e, he, List.mem_map.2 ⟨x, hx, h3⟩⟩)
    rw [this]
    rfl
/-- Whole pasts. -/
def wholeB (l : List Evt) : Bool := closedB l && l.all fun e => l.all fun f => !(ahE f e) || decide (wth f.2.1 e.2.1)
theorem wholeB_iff {l : List Evt} : wholeB l = true ↔ closedB l = true ∧ ∀ e ∈ l, ∀ f ∈ l, ahE f e = true → wth f.2.1 e.2.1 := by
  simp only [wholeB, Bool.and_eq_true, List.all_eq_true, Bool.or_eq_true, decide_eq_true_eq, Bool.not_eq_true']
  constructor
  · rintro ⟨h1, h2⟩
    refine ⟨h1, fun e he f hf ha => ?_⟩
    rcases h2 e he f hf with h | h
    · rw [ha] at h; cases h
    · exact h
  · rintro ⟨h1, h2⟩
    refine ⟨h1, fun e he f hf => ?_⟩
    rcases ha : ahE f e with _ | _
    · exact .inl rfl
    · exact .inr (h2 e he f hf ha)
/-- May an event come next? -/
def nextB (c : List Int) (e : Evt) : Bool := decide (getZ c e.1.1 < e.1.2) && decide (wth e.2.1 c)
theorem nextB_iff {c : List Int} {e : Evt} : nextB c e = true ↔ getZ c e.1.1 < e.1.2 ∧ wth e.2.1 c := by simp [nextB]
/-- What is out so far, and the clock of it. -/
structure TI (l out : List Evt) (c : List Int) : Prop where
  sub : ∀ e ∈ out, e ∈ l
  nd : out.Nodup
  seen : ∀ e ∈ l, e ∈ out ↔ e.1.2 ≤ getZ c e.1.1
  ord : OrdP out
  low : ∀ e ∈ out, wth e.2.1 c
  may : mayC c = true
theorem wth_getZ {a b : List Int} (h : wth a b) (r : Int) : getZ a r ≤ getZ b r := by
  unfold getZ
  split
  · rename_i hr
    exact (wth_all a b).1 h _ (by omega)
  · exact Int.le_refl _
theorem getZ_wth {a b : List Int} (h : ∀ r : Int, 1 ≤ r → r ≤ 5 → getZ a r ≤ getZ b r) : wth a b := by
  rw [wth_all]
  intro i hi
  have := h (i + 1) (by omega) (by omega)
  rwa [getZ_in a i hi, getZ_in b i hi] at this
theorem TI.start {l : List Evt} (hm : ∀ e ∈ l, mayE e = true) : TI l [] [] := by
  refine ⟨fun e he => by simp at he, List.nodup_nil, fun e he => ?_, fun i j f e _ h => by simp at h, fun e he => by simp at he, by decide⟩
  have h0 : getZ [] e.1.1 = 0 := by
    unfold getZ at5
    split
    · simp
    · rfl
  have := (mayD_iff.1 (may_dot (hm e he))).2.2.1
  rw [h0]
  simp
  omega
/-- A clock with a dot's number. -/
def setE (c : List Int) (d : Dot) : List Int := pln (setL c (d.1.toNat - 1) d.2)
theorem setE_get {c : List Int} {d : Dot} (hd : mayD d = true) (r : Int) (h1 : 1 ≤ r) (h5 : r ≤ 5) : getZ (setE c d) r = if r = d.1 then d.2 else getZ c r := by
  have q := mayD_iff.1 hd
  have e1 : getZ (setE c d) r = at5 (setE c d) (r.toNat - 1) := by unfold getZ; rw [if_pos ⟨h1, h5⟩]
  have e2 : getZ c r = at5 c (r.toNat - 1) := by unfold getZ; rw [if_pos ⟨h1, h5⟩]
  rw [e1, e2]
  unfold setE
  rw [at5_pln _ (setL_len _ _ _) (setL_bd _ _ _ (by omega) (by omega)), setL_getD _ _ _ _ (by omega)]
  by_cases e : r = d.1
  · rw [if_pos e, if_pos (by rw [e])]
  · rw [if_neg e, if_neg (by omega)]
theorem TI.step {l out : List Evt} {c : List Int} (h : TI l out c) (hm : ∀ e ∈ l, mayE e = true) (hn : (l.map (·.1)).Nodup) {e : Evt} (he : e ∈ l) (hx : nextB c e = true) : TI l (out ++ [e]) (setE c e.1) := by
  obtain ⟨h1, h2⟩ := nextB_iff.1 hx
  have hd := may_dot (hm e he)
  have q := mayD_iff.1 hd
  have own := own_past (hm e he)
  have hrep := wth_getZ h2 e.1.1
  have hnot : e ∉ out := fun ho => by have := (h.seen e he).1 ho; omega
  have inj : ∀ f ∈ l, f.1 = e.1 → f = e := by
    intro f hf hfe
    obtain ⟨i, hi⟩ := List.mem_iff_getElem?.1 hf
    obtain ⟨j, hj⟩ := List.mem_iff_getElem?.1 he
    have e1 : (l.map (·.1))[i]? = some e.1 := by rw [List.getElem?_map, hi]; simp [hfe]
    have e2 : (l.map (·.1))[j]? = some e.1 := by rw [List.getElem?_map, hj]; rfl
    have := (List.getElem?_inj (List.getElem?_eq_some_iff.1 e1).1 hn).1 (e1.trans e2.symm)
    subst this
    rw [hi] at hj
    exact Option.some.inj hj
  have grow : ∀ r : Int, 1 ≤ r → r ≤ 5 → getZ c r ≤ getZ (setE c e.1) r := by
    intro r hr1 hr5
    rw [setE_get hd r hr1 hr5]
    split
    · rename_i hr; subst hr; omega
    · exact Int.le_refl _
  refine ⟨fun f hf => ?_, ?_, fun f hf => ?_, ?_, fun f hf => ?_, mayC_pln _ (by rw [setL_len]; exact Nat.le_refl _) (setL_bd _ _ _ (by omega) (by omega))⟩
  · rcases List.mem_append.1 hf with hf | hf
    · exact h.sub f hf
    · simp at hf; subst hf; exact he
  · rw [List.nodup_append]
    refine ⟨h.nd, by simp, fun a ha b hb => ?_⟩
    simp at hb
    subst hb
    rintro rfl
    exact hnot ha
  · have qf := mayD_iff.1 (may_dot (hm f hf))
    rw [setE_get hd f.1.1 qf.1 qf.2.1, List.mem_append, List.mem_singleton, h.seen f hf]
    split
    · rename_i hr
      rw [hr]
      constructor
      · rintro (q1 | rfl)
        · omega
        · exact Int.le_refl _
      · intro q1
        rcases Int.lt_or_le f.1.2 e.1.2 with q2 | q2
        · exact .inl (by omega)
        · exact .inr (inj f hf (Prod.ext hr (by omega)))
    · rename_i hr
      constructor
      · rintro (q1 | rfl)
        · exact q1
        · exact absurd rfl hr
      · exact fun q1 => .inl q1
  · intro i j f g hij hi hj
    have hjl := (List.getElem?_eq_some_iff.1 hj).1
    rw [List.length_append, List.length_singleton] at hjl
    rw [List.getElem?_append_left (by omega)] at hi
    rcases Nat.lt_or_ge j out.length with hjo | hjo
    · rw [List.getElem?_append_left hjo] at hj
      exact h.ord i j f g hij hi hj
    · obtain rfl : j = out.length := by omega
      rw [List.getElem?_append_right (Nat.le_refl _), Nat.sub_self] at hj
      simp at hj
      subst hj
      have hlf := wth_getZ (h.low f (List.mem_of_getElem? hi)) e.1.1
      unfold ahE ahdB
      rw [hd]
      simp
      omega
  · rcases List.mem_append.1 hf with hf | hf
    · refine getZ_wth (fun r hr1 hr5 => Int.le_trans (wth_getZ (h.low f hf) r) (grow r hr1 hr5))
    · simp at hf
      subst hf
      exact getZ_wth (fun r hr1 hr5 => Int.le_trans (wth_getZ h2 r) (grow r hr1 hr5))
theorem least {α : Type} (p : α → Prop) (f : α → Nat) : ∀ (m : Nat) (a : α), f a ≤ m → p a → ∃ b, p b ∧ ∀ c, p c → f b ≤ f c
  | 0, a, h, hp => ⟨a, hp, fun c _ => by omega⟩
  | m + 1, a, h, hp => by
    by_cases q : ∃ c, p c ∧ f c < f a
    · obtain ⟨c, h1, h2⟩ := q
      exact least p f m c (by omega) h1
    · refine ⟨a, hp, fun c hc => ?_⟩
      rcases Nat.lt_or_ge (f c) (f a) with h | h
      · exact absurd ⟨c, hc, h⟩ q
      · exact h
theorem TI.more {l out : List Evt} {c : List Int} (h : TI l out c) (hl : l.length ≤ 1000) (hw : wholeB l = true) (hlt : out.length < l.length) : ∃ e ∈ l, nextB c e = true := by
  obtain ⟨hc, hp⟩ := wholeB_iff.1 hw
  obtain ⟨hm, hn, _⟩ := closed_parts.1 hc
  classical
  have hex : ∃ e, e ∈ l ∧ e ∉ out := by
    by_cases q : ∃ e, e ∈ l ∧ e ∉ out
    · exact q
    · exfalso
      have hnl : l.Nodup := List.Pairwise.of_map (fun e : Evt => e.1) (fun a b h e => h (by rw [e])) hn
      have := nd_le l out hnl (fun e he => by
        by_cases ho : e ∈ out
        · exact ho
        · exact absurd ⟨e, he, ho⟩ q)
      omega
  obtain ⟨e0, he0⟩ := hex
  obtain ⟨e, ⟨he, hne⟩, hmin⟩ := least (fun e => e ∈ l ∧ e ∉ out) (fun e => (sumL e.2.1).toNat) _ e0 (Nat.le_refl _) he0
  have q := mayD_iff.1 (may_dot (hm e he))
  refine ⟨e, he, nextB_iff.2 ⟨?_, getZ_wth (fun r hr1 hr5 => ?_)⟩⟩
  · rcases Int.lt_or_le (getZ c e.1.1) e.1.2 with q | q
    · exact q
    · exact absurd ((h.seen e he).2 q) hne
  · rcases Int.lt_or_le 0 (getZ e.2.1 r) with hz | hz
    · have hf := closed_found hl hc e he r (getZ e.2.1 r) hr1 hr5 (by omega) (Int.le_refl _)
      obtain ⟨f, hfl, hfe⟩ : ∃ f ∈ l, f.1 = (r, getZ e.2.1 r) := by
        unfold findB at hf
        rw [List.any_eq_true] at hf
        obtain ⟨f, h1, h2⟩ := hf
        exact ⟨f, h1, by simpa using h2⟩
      have ha : ahE f e = true := by
        unfold ahE ahdB
        rw [may_dot (hm f hfl), hfe]
        simp
      have hwt := hp e he f hfl ha
      have hfo : f ∈ out := by
        by_cases ho : f ∈ out
        · exact ho
        · exfalso
          have hle := hmin f ⟨hfl, ho⟩
          have own := own_past (hm f hfl)
          rw [hfe] at own
          simp only at own
          have hs : sumL f.2.1 < sumL e.2.1 := by
            have w5 := hwt
            obtain ⟨i, hi, rfl⟩ : ∃ i : Nat, i < 5 ∧ r = i + 1 := ⟨r.toNat - 1, by omega, by omega⟩
            rw [getZ_in _ i hi, getZ_in _ i hi] at own
            unfold sumL
            unfold wth at w5
            obtain rfl | rfl | rfl | rfl | rfl : i = 0 ∨ i = 1 ∨ i = 2 ∨ i = 3 ∨ i = 4 := by omega
            all_goals omega
          have b0 := at5_bd f.2.1
          have : 0 ≤ sumL f.2.1 := by
            unfold sumL
            have := (b0 0).1; have := (b0 1).1; have := (b0 2).1; have := (b0 3).1; have := (b0 4).1
            omega
          omega
      have := (h.seen f hfl).1 hfo
      rw [hfe] at this
      exact this
    · exact Int.le_trans hz (getZ_bd c r).1
theorem TI.all {l out : List Evt} {c : List Int} (h : TI l out c) (hlen : out.length = l.length) : ∀ e, e ∈ out ↔ e ∈ l := by
  classical
  exact fun e => ⟨h.sub e, nd_all h.nd h.sub (by omega) e⟩
end Go.Proofs.Ytiodlpoeifmldaa
