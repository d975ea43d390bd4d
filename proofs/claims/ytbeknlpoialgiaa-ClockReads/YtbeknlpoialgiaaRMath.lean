/- Clocks' bytes in plain mathematics: what is put, what is read, and that the document's reading is the program's. -/
import Derived.Test.YtbeknlpoialgiaaCMath
namespace Go.Proofs.Ytbeknlpoialgiaa

/-- A clock's bytes. -/
def putC (c : List Int) : List Int := pack ((pln (vec c)).map num)
/-- A replica's number whose bytes are a whole text. -/
def rdNum (t : List Int) : Option Int := match getNum t with
  | none => none
  | some (x, k) => if k = t.length ∧ x ≤ 1048576 then some x else none
def rdAll : List (List Int) → Option (List Int)
  | [] => some []
  | t :: r => match rdNum t with
    | none => none
    | some x => (rdAll r).map (x :: ·)
/-- The clock that bytes begin with, and how many these are. -/
def rdC (b : List Int) : Option (List Int × Nat) := match unpack b 5 with
  | none => none
  | some (ts, m) => match rdAll ts with
    | none => none
    | some c => if pln c = c then some (c, m) else none
/-- The number that a text begins with, as the document's answer takes it. -/
def rfNum (t : List Int) : Option Int := match getNum t with
  | none => none
  | some (x, _) => if x ≤ 1048576 then some x else none
def rfAll : List (List Int) → Option (List Int)
  | [] => some []
  | t :: r => match rfNum t with
    | none => none
    | some x => (rfAll r).map (x :: ·)
def rfC (b : List Int) : Option (List Int × Nat) := match unpack b 5 with
  | none => none
  | some (ts, m) => match rfAll ts with
    | none => none
    | some c => if putC c = b.take m then some (c, m) else none

theorem rdAll_step {ts : List (List Int)} {k : Nat} {x : Int} {acc : List Int} (hk : k < ts.length) (h : rdAll ts = (rdAll (ts.drop k)).map (acc ++ ·)) (hx : rdNum (ts.getD k []) = some x) :
    rdAll ts = (rdAll (ts.drop (k + 1))).map ((acc ++ [x]) ++ ·) := by
  rw [h, List.drop_eq_getElem_cons hk]
  have e : ts[k] = ts.getD k [] := by simp [List.getD_eq_getElem?_getD, hk]
  simp only [rdAll, e, hx, Option.map_map]
  congr 1
  funext r
  simp
theorem rdAll_bad {ts : List (List Int)} {k : Nat} {acc : List Int} (hk : k < ts.length) (h : rdAll ts = (rdAll (ts.drop k)).map (acc ++ ·)) (hx : rdNum (ts.getD k []) = none) : rdAll ts = none := by
  rw [h, List.drop_eq_getElem_cons hk]
  have e : ts[k] = ts.getD k [] := by simp [List.getD_eq_getElem?_getD, hk]
  simp only [rdAll, e, hx, Option.map_none]
theorem rfAll_step {ts : List (List Int)} {k : Nat} {x : Int} {acc : List Int} (hk : k < ts.length) (h : rfAll ts = (rfAll (ts.drop k)).map (acc ++ ·)) (hx : rfNum (ts.getD k []) = some x) :
    rfAll ts = (rfAll (ts.drop (k + 1))).map ((acc ++ [x]) ++ ·) := by
  rw [h, List.drop_eq_getElem_cons hk]
  have e : ts[k] = ts.getD k [] := by simp [List.getD_eq_getElem?_getD, hk]
  simp only [rfAll, e, hx, Option.map_map]
  congr 1
  funext r
  simp
theorem rfAll_bad {ts : List (List Int)} {k : Nat} {acc : List Int} (hk : k < ts.length) (h : rfAll ts = (rfAll (ts.drop k)).map (acc ++ ·)) (hx : rfNum (ts.getD k []) = none) : rfAll ts = none := by
  rw [h, List.drop_eq_getElem_cons hk]
  have e : ts[k] = ts.getD k [] := by simp [List.getD_eq_getElem?_getD, hk]
  simp only [rfAll, e, hx, Option.map_none]

theorem pln_iff (c : List Int) : pln c = c ↔ ¬ (0 < c.length ∧ c.getD (c.length - 1) 0 = 0) := by
  rcases List.eq_nil_or_concat c with rfl | ⟨l, a, rfl⟩
  · simp [pln, plen]
  · have hg : (l.concat a).getD ((l.concat a).length - 1) 0 = a := by simp [List.getD_eq_getElem?_getD]
    rw [hg]
    rw [List.concat_eq_append]
    by_cases ha : a = 0
    · subst ha
      rw [pln_zero]
      simp
      intro h
      have h1 := congrArg List.length h
      rw [pln_length] at h1
      have := plen_le l
      simp at h1
      omega
    · rw [pln_snoc ha]
      simp [ha]

theorem rfAll_bd : ∀ {ts : List (List Int)} (_ : ∀ t ∈ ts, By t) {c : List Int} (_ : rfAll ts = some c), c.length = ts.length ∧ ∀ x ∈ c, 0 ≤ x ∧ x ≤ 1048576
  | [], _, c, h => by
    simp [rfAll] at h
    subst h
    exact ⟨rfl, fun x hx => by cases hx⟩
  | t :: r, hby, c, h => by
    unfold rfAll at h
    rcases hn : rfNum t with _ | x
    · rw [hn] at h; cases h
    · rw [hn] at h
      simp only [Option.map_eq_some_iff] at h
      obtain ⟨c', hc', rfl⟩ := h
      obtain ⟨i1, i2⟩ := rfAll_bd (fun u hu => hby u (by simp [hu])) hc'
      refine ⟨by simp [i1], fun y hy => ?_⟩
      rcases List.mem_cons.1 hy with rfl | hy
      · unfold rfNum at hn
        split at hn
        · cases hn
        · rename_i z k hg
          split at hn
          · rename_i hle
            cases hn
            exact ⟨(getNum_some (hby t (by simp)) hg).1, hle⟩
          · cases hn
      · exact i2 y hy
/-- Whole texts: the bytes of the numbers. -/
theorem rdAll_iff : ∀ {ts : List (List Int)} (_ : ∀ t ∈ ts, By t) {c : List Int}, rdAll ts = some c ↔ rfAll ts = some c ∧ ts = c.map num
  | [], _, c => by
    simp only [rdAll, rfAll, Option.some.injEq]
    constructor
    · rintro rfl; exact ⟨rfl, rfl⟩
    · rintro ⟨rfl, _⟩; rfl
  | t :: r, hby, c => by
    have ih := fun {c'} => @rdAll_iff r (fun u hu => hby u (by simp [hu])) c'
    unfold rdAll rfAll
    rcases hg : getNum t with _ | ⟨x, k⟩
    · simp [rdNum, rfNum, hg]
    · obtain ⟨g0, g1, g2, g3, g4, g5, g6⟩ := getNum_some (hby t (by simp)) hg
      by_cases hx : x ≤ 1048576
      · have e2 : rfNum t = some x := by simp [rfNum, hg, hx]
        by_cases hk : k = t.length
        · have e1 : rdNum t = some x := by simp [rdNum, hg, hx, hk]
          have ht : num x = t := by rw [g5, hk, List.take_length]
          simp only [e1, e2, Option.map_eq_some_iff]
          constructor
          · rintro ⟨c', hc', rfl⟩
            obtain ⟨h1, h2⟩ := ih.1 hc'
            exact ⟨⟨c', h1, rfl⟩, by rw [List.map_cons, ht, ← h2]⟩
          · rintro ⟨⟨c', hc', rfl⟩, h2⟩
            rw [List.map_cons, List.cons.injEq] at h2
            exact ⟨c', ih.2 ⟨hc', h2.2⟩, rfl⟩
        · have e1 : rdNum t = none := by simp [rdNum, hg, hk]
          simp only [e1, e2, Option.map_eq_some_iff]
          constructor
          · intro h; cases h
          · rintro ⟨⟨c', hc', rfl⟩, h2⟩
            rw [List.map_cons, List.cons.injEq] at h2
            exfalso
            apply hk
            have h3 := num_len x
            rw [← h2.1] at h3
            omega
      · have e1 : rdNum t = none := by simp [rdNum, hg, hx]
        have e2 : rfNum t = none := by simp [rfNum, hg, hx]
        simp [e1, e2]

theorem unpack_le {b : List Int} {most : Int} {l : List (List Int)} {n : Nat} (hb : By b) (h : unpack b most = some (l, n)) : (l.length : Int) ≤ most := by
  unfold unpack at h
  split at h
  · cases h
  · rename_i u k hk
    obtain ⟨g0, _⟩ := getNum_some hb hk
    split at h
    · cases h
    · split at h
      · cases h
      · rename_i l' m' hm'
        simp only [Option.some.injEq, Prod.mk.injEq] at h
        obtain ⟨rfl, rfl⟩ := h
        obtain ⟨_, i2, _⟩ := gets_some _ (hb.drop k) hm'
        rw [i2]
        omega
theorem pln_vec (c : List Int) (hm : mayC c = true) : pln (vec c) = pln c := by
  have h5 := (mayC_iff.1 hm).1
  have e : vec c = c ++ List.replicate (5 - c.length) 0 := by
    unfold vec
    have : ∀ k, at5 c k = c.getD k 0 := fun k => if_pos hm
    simp only [this]
    match c, h5 with
    | [], _ => rfl
    | [_], _ => rfl
    | [_, _], _ => rfl
    | [_, _, _], _ => rfl
    | [_, _, _, _], _ => rfl
    | [_, _, _, _, _], _ => rfl
  rw [e]
  generalize 5 - c.length = k
  clear e h5 hm
  induction k with
  | zero => simp
  | succ k ih => rw [List.replicate_succ', ← List.append_assoc, pln_zero]; exact ih
theorem num_inj {x y : Int} (hx0 : 0 ≤ x) (hx1 : x ≤ 1048576) (hy0 : 0 ≤ y) (hy1 : y ≤ 1048576) (h : num x = num y) : x = y := by
  have h1 := getNum_num x hx0 (by omega) []
  have h2 := getNum_num y hy0 (by omega) []
  rw [h, h2] at h1
  simp at h1
  exact h1.symm
theorem map_num_inj : ∀ {c d : List Int} (_ : ∀ x ∈ c, 0 ≤ x ∧ x ≤ 1048576) (_ : ∀ x ∈ d, 0 ≤ x ∧ x ≤ 1048576), c.map num = d.map num → c = d
  | [], [], _, _, _ => rfl
  | [], _ :: _, _, _, h => by simp at h
  | _ :: _, [], _, _, h => by simp at h
  | x :: c, y :: d, hc, hd, h => by
    simp only [List.map_cons, List.cons.injEq] at h
    rw [num_inj (hc x (by simp)).1 (hc x (by simp)).2 (hd y (by simp)).1 (hd y (by simp)).2 h.1, map_num_inj (fun z hz => hc z (by simp [hz])) (fun z hz => hd z (by simp [hz])) h.2]
theorem pack_inj {l m : List (List Int)} (hl : l.length ≤ 5) (hm : m.length ≤ 5) (h1 : ∀ t ∈ l, t.length ≤ 65536) (h2 : ∀ t ∈ m, t.length ≤ 65536) (h : pack l = pack m) : l = m := by
  have e1 := unpack_pack l (by omega) h1 [] 5 (by omega)
  have e2 := unpack_pack m (by omega) h2 [] 5 (by omega)
  rw [h, e2] at e1
  simp only [Option.some.injEq, Prod.mk.injEq] at e1
  exact e1.1.symm
theorem num_short (x : Int) : (num x).length ≤ 65536 := by rw [num_len]; have := nb_le x; omega
theorem nums_short (c : List Int) : ∀ t ∈ c.map num, t.length ≤ 65536 := by
  intro t ht
  obtain ⟨x, _, rfl⟩ := List.mem_map.1 ht
  exact num_short x

theorem rf_rd {b : List Int} (hb : By b) : rfC b = rdC b := by
  unfold rfC rdC
  rcases hu : unpack b 5 with _ | ⟨ts, m⟩
  · rfl
  · obtain ⟨_, _, hp, hts⟩ := unpack_some hb hu
    have h5 := unpack_le hb hu
    simp only []
    rcases hf : rfAll ts with _ | c
    · have hd : rdAll ts = none := by
        rcases hr : rdAll ts with _ | c
        · rfl
        · have := ((rdAll_iff (fun t ht => (hts t ht).2)).1 hr).1
          rw [hf] at this; cases this
      simp [hd]
    · obtain ⟨hl, hbd⟩ := rfAll_bd (fun t ht => (hts t ht).2) hf
      have hmay : mayC c = true := mayC_iff.2 ⟨by omega, hbd⟩
      have hput : putC c = b.take m ↔ (pln c).map num = ts := by
        unfold putC
        rw [pln_vec c hmay, ← hp]
        constructor
        · intro h
          exact pack_inj (by rw [List.length_map, pln_length]; have := plen_le c; omega) (by omega) (nums_short _) (fun t ht => (hts t ht).1) h
        · intro h; rw [h]
      have hplb : ∀ x ∈ pln c, 0 ≤ x ∧ x ≤ 1048576 := fun x hx => hbd x (List.mem_of_mem_take hx)
      simp only []
      by_cases hw : ts = c.map num
      · have hr : rdAll ts = some c := (rdAll_iff (fun t ht => (hts t ht).2)).2 ⟨hf, hw⟩
        simp only [hr]
        have e : (putC c = b.take m) ↔ pln c = c := by
          rw [hput, hw]
          exact ⟨fun h => map_num_inj hplb hbd h, fun h => by rw [h]⟩
        by_cases hpc : pln c = c
        · rw [if_pos (e.2 hpc), if_pos hpc]
        · rw [if_neg (fun h => hpc (e.1 h)), if_neg hpc]
      · have hr : rdAll ts = none := by
          rcases hr : rdAll ts with _ | c'
          · rfl
          · have h1 := (rdAll_iff (fun t ht => (hts t ht).2)).1 hr
            rw [hf] at h1
            obtain ⟨h1, h2⟩ := h1
            cases h1
            exact absurd h2 hw
        simp only [hr]
        rw [if_neg]
        intro h
        have h1 := hput.1 h
        apply hw
        have h2 : (pln c).length = c.length := by
          have h3 := congrArg List.length h1
          rw [List.length_map] at h3
          omega
        have h4 : pln c = c := by
          rw [pln_length] at h2
          unfold pln
          rw [h2, List.take_length]
        rw [← h1, h4]

theorem rdAll_nums : ∀ (c : List Int) (_ : ∀ x ∈ c, 0 ≤ x ∧ x ≤ 1048576), rdAll (c.map num) = some c
  | [], _ => rfl
  | x :: r, h => by
    have hg := getNum_num x (h x (by simp)).1 (by have := (h x (by simp)).2; omega) []
    rw [List.append_nil] at hg
    have e : rdNum (num x) = some x := by simp [rdNum, hg, (h x (by simp)).2]
    simp only [List.map_cons, rdAll, e, rdAll_nums r (fun y hy => h y (by simp [hy])), Option.map_some]
theorem pln_pln (c : List Int) : pln (pln c) = pln c := by
  rcases List.eq_nil_or_concat (pln c) with h | ⟨l, a, h⟩
  · rw [h]; rfl
  · rw [pln_iff]
    rintro ⟨h1, h2⟩
    have h3 := pln_getD c ((pln c).length - 1)
    rw [h2] at h3
    -- the last number that stands is none of the noughts at the end
    have hp : 0 < plen c := by rw [← pln_length]; exact h1
    have h4 : c.getD (plen c - 1) 0 ≠ 0 := by
      clear h1 h2 h3 h l a
      induction c with
      | nil => simp [plen] at hp
      | cons y r ih =>
        unfold plen at hp ⊢
        split
        · rename_i hc; rw [if_pos hc] at hp; omega
        · rename_i hc
          rcases Nat.eq_zero_or_pos (plen r) with h0 | h0
          · rw [h0]
            simp
            intro hy
            exact hc ⟨h0, hy⟩
          · have := ih h0
            have e : plen r + 1 - 1 = (plen r - 1) + 1 := by omega
            rw [e]
            simpa using this
    rw [pln_length] at h3
    exact h4 h3.symm
/-- What is put is read, whatever stands behind. -/
theorem rd_put (c b : List Int) : rdC (putC c ++ b) = some (pln (vec c), (putC c).length) := by
  unfold rdC putC
  have hbd : ∀ x ∈ pln (vec c), 0 ≤ x ∧ x ≤ 1048576 := fun x hx => vec_bd c x (List.mem_of_mem_take hx)
  have hlen : (pln (vec c)).length ≤ 5 := by rw [pln_length]; have := plen_le (vec c); rw [vec_len] at this; exact this
  rw [unpack_pack _ (by rw [List.length_map]; omega) (nums_short _) b 5 (by rw [List.length_map]; omega)]
  simp only [rdAll_nums _ hbd]
  rw [if_pos (pln_pln _)]
end Go.Proofs.Ytbeknlpoialgiaa
