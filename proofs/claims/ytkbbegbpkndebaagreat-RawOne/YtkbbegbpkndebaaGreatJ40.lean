/- Texts of this claim, joined: H4. -/
import Derived.Test.YtkbbegbpkndebaaGreatJ12
import Derived.Test.YtkbbegbpkndebaaGreatJ35
/- Raw as bytes (layer 13), in plain mathematics: raws that have the same bytes are the same. -/
namespace Go.Proofs.YtkbbegbpkndebaaGreat
set_option linter.unusedVariables false
theorem num_cut {x y : Int} (hx : 0 ≤ x ∧ x < 18446744073709551616) (hy : 0 ≤ y ∧ y < 18446744073709551616) {a b : List Int} (h : num x ++ a = num y ++ b) : x = y ∧ a = b := by
  have q := getNum_num x hx.1 hx.2 a
  rw [h, getNum_num y hy.1 hy.2 b] at q
  simp only [Option.some.injEq, Prod.mk.injEq] at q
  obtain ⟨rfl, _⟩ := q
  exact ⟨rfl, List.append_cancel_left h⟩
theorem num_inj {x y : Int} (hx : 0 ≤ x ∧ x < 18446744073709551616) (hy : 0 ≤ y ∧ y < 18446744073709551616) (h : num x = num y) : x = y := (num_cut hx hy (a := []) (b := []) (by rw [h])).1
theorem text_cut {t u : List Int} (ht : t.length ≤ 1000000) (hu : u.length ≤ 1000000) {a b : List Int} (h : text t ++ a = text u ++ b) : t = u ∧ a = b := by
  unfold text at h
  rw [List.append_assoc, List.append_assoc] at h
  obtain ⟨e, h2⟩ := num_cut ⟨by omega, by omega⟩ ⟨by omega, by omega⟩ h
  exact List.append_inj h2 (by omega)
theorem texts_cut : ∀ {l m : List (List Int)} {a b : List Int}, l.length = m.length → (∀ t ∈ l, t.length ≤ 1000000) → (∀ t ∈ m, t.length ≤ 1000000) → l.flatMap text ++ a = m.flatMap text ++ b → l = m
  | [], [], _, _, _, _, _, _ => rfl
  | [], _ :: _, _, _, h, _, _, _ => by simp at h
  | _ :: _, [], _, _, h, _, _, _ => by simp at h
  | t :: l, u :: m, a, b, h, h1, h2, e => by
    rw [List.flatMap_cons, List.flatMap_cons, List.append_assoc, List.append_assoc] at e
    obtain ⟨rfl, e2⟩ := text_cut (h1 t List.mem_cons_self) (h2 u List.mem_cons_self) e
    rw [texts_cut (by simpa using h) (fun x hx => h1 x (List.mem_cons_of_mem _ hx)) (fun x hx => h2 x (List.mem_cons_of_mem _ hx)) e2]
theorem pack_inj {l m : List (List Int)} (hl : l.length ≤ 1000000) (hm : m.length ≤ 1000000) (h1 : ∀ t ∈ l, t.length ≤ 1000000) (h2 : ∀ t ∈ m, t.length ≤ 1000000) (h : pack l = pack m) : l = m := by
  unfold pack at h
  obtain ⟨e, h3⟩ := num_cut ⟨by omega, by omega⟩ ⟨by omega, by omega⟩ h
  exact texts_cut (a := []) (b := []) (by omega) h1 h2 (by rw [h3])
theorem num_len9 (x : Int) : (num x).length ≤ 9 := by rw [num_len]; have := nb_le x; omega
theorem flat_len {B : Nat} : ∀ {l : List (List Int)}, (∀ t ∈ l, t.length ≤ B) → (l.flatMap text).length ≤ l.length * (B + 9)
  | [], _ => by simp
  | t :: l, h => by
    have h1 := text_len t
    have h2 := h t List.mem_cons_self
    have h3 := flat_len (fun u hu => h u (List.mem_cons_of_mem _ hu))
    rw [List.flatMap_cons, List.length_append, List.length_cons, Nat.succ_mul]
    omega
theorem pack_len {B : Nat} {l : List (List Int)} (h : ∀ t ∈ l, t.length ≤ B) : (pack l).length ≤ 9 + l.length * (B + 9) := by
  have h1 := num_len9 l.length
  have h2 := flat_len h
  unfold pack
  rw [List.length_append]
  omega
/-! Numbers, which may be below 0 -/
def zzN (n : Int) : Int := if 0 ≤ n then 2 * n else -2 * n - 1
theorem zzN_bd {n : Int} (h : -top40 ≤ n ∧ n ≤ top40) : 0 ≤ zzN n ∧ zzN n < 18446744073709551616 := by
  unfold top40 at h
  unfold zzN
  split <;> omega
theorem zzN_inj {n m : Int} (h : zzN n = zzN m) : n = m := by
  unfold zzN at h
  split at h <;> split at h <;> omega
/-! Things, key by key -/
def entB (x : En) : List Int := pack (bytesL x.1 :: x.2.1.flatMap (fun d => [num d.1, num d.2]))
def celB (x : Ce) : List Int := pack [bytesL x.1, num (zzN x.2)]
def accB (x : Ac) : List Int := pack (bytesL x.1 :: x.2.map (fun n => num (zzN n)))
def notB (x : Nt) : List Int := pack [bytesL x.1, num x.2.1, num x.2.2.1, bytesL x.2.2.2]
/-- The texts of all things. -/
def allB (w : Rw) : List (List Int) := w.1.map (fun s => pack (s.map entB)) ++ w.2.1.map (fun s => pack (s.map celB)) ++ w.2.2.1.map (fun s => pack (s.map accB)) ++ w.2.2.2.map (fun s => pack (s.map notB))
/-- The bytes of plain raw. -/
def bytRw (w : Rw) : List Int := pack (allB w)
theorem bytesL_len (k : ByteArray) : (bytesL k).length = k.size := by
  conv => rhs; rw [← str_bytes k, str_size]
theorem bytesL_inj {a b : ByteArray} (h : bytesL a = bytesL b) : a = b := by rw [← str_bytes a, ← str_bytes b, h]
/-- An entry that is plain, whose dots may be; not too many. -/
structure EnS (L : Nat) (x : En) : Prop where
  key : x.1.size ≤ 32
  dots : ∀ d ∈ x.2.1, mayD d = true
  few : x.2.1.length ≤ L
  dead : x.2.2 = []
theorem mayD_bd {d : Dot} (h : mayD d = true) : (0 ≤ d.1 ∧ d.1 < 18446744073709551616) ∧ 0 ≤ d.2 ∧ d.2 < 18446744073709551616 := by
  unfold mayD at h
  simp at h
  omega
theorem dots_inj : ∀ {a b : List Dot}, (∀ d ∈ a, mayD d = true) → (∀ d ∈ b, mayD d = true) → a.flatMap (fun d => [num d.1, num d.2]) = b.flatMap (fun d => [num d.1, num d.2]) → a = b
  | [], [], _, _, _ => rfl
  | [], y :: b, _, _, h => by simp at h
  | x :: a, [], _, _, h => by simp at h
  | x :: a, y :: b, h1, h2, h => by
    rw [List.flatMap_cons, List.flatMap_cons] at h
    simp only [List.cons_append, List.nil_append, List.cons.injEq] at h
    have hx := mayD_bd (h1 x List.mem_cons_self)
    have hy := mayD_bd (h2 y List.mem_cons_self)
    have e1 := num_inj hx.1 hy.1 h.1
    have e2 := num_inj hx.2 hy.2 h.2.1
    rw [dots_inj (fun d hd => h1 d (List.mem_cons_of_mem _ hd)) (fun d hd => h2 d (List.mem_cons_of_mem _ hd)) h.2.2]
    rw [show x = y from Prod.ext e1 e2]
theorem dots_len : ∀ (a : List Dot), (a.flatMap (fun d => [num d.1, num d.2])).length = 2 * a.length
  | [] => rfl
  | x :: a => by
    rw [List.flatMap_cons, List.length_append, dots_len a]
    simp
    omega
theorem ent_texts {L : Nat} {x : En} (h : EnS L x) : (∀ t ∈ bytesL x.1 :: x.2.1.flatMap (fun d => [num d.1, num d.2]), t.length ≤ 32) ∧ (bytesL x.1 :: x.2.1.flatMap (fun d => [num d.1, num d.2])).length ≤ 2 * L + 1 := by
  constructor
  · intro t ht
    rcases List.mem_cons.1 ht with e | e
    · rw [e, bytesL_len]; exact h.key
    · obtain ⟨d, _, hd⟩ := List.mem_flatMap.1 e
      rcases List.mem_cons.1 hd with q | q
      · rw [q]; have := num_len9 d.1; omega
      · rw [List.mem_singleton.1 q]; have := num_len9 d.2; omega
  · rw [List.length_cons, dots_len]
    have := h.few
    omega
theorem entB_inj {L : Nat} (hL : L ≤ 400) {x y : En} (hx : EnS L x) (hy : EnS L y) (h : entB x = entB y) : x = y := by
  have qx := ent_texts hx
  have qy := ent_texts hy
  have e := pack_inj (by omega) (by omega) (fun t ht => Nat.le_trans (qx.1 t ht) (by decide)) (fun t ht => Nat.le_trans (qy.1 t ht) (by decide)) h
  simp only [List.cons.injEq] at e
  exact Prod.ext (bytesL_inj e.1) (Prod.ext (dots_inj hx.dots hy.dots e.2) (hx.dead.trans hy.dead.symm))
/-- How long a set's entry is. -/
theorem entB_len {L : Nat} {x : En} (h : EnS L x) : (entB x).length ≤ 50 + 36 * L := by
  have h1 := num_len9 ((bytesL x.1 :: x.2.1.flatMap (fun d => [num d.1, num d.2])).length)
  have h2 := text_len (bytesL x.1)
  have h3 : ((x.2.1.flatMap (fun d => [num d.1, num d.2])).flatMap text).length ≤ (x.2.1.flatMap (fun d => [num d.1, num d.2])).length * (9 + 9) := flat_len (fun t ht => by
    obtain ⟨d, _, hd⟩ := List.mem_flatMap.1 ht
    rcases List.mem_cons.1 hd with q | q
    · rw [q]; exact num_len9 _
    · rw [List.mem_singleton.1 q]; exact num_len9 _)
  have h4 := h.few
  have h5 := h.key
  rw [dots_len] at h3
  rw [bytesL_len] at h2
  unfold entB pack
  rw [List.length_append, List.flatMap_cons, List.length_append]
  omega
theorem celB_texts {x : Ce} (h : mayCe x = true) : ∀ t ∈ [bytesL x.1, num (zzN x.2)], t.length ≤ 32 := by
  have hk : mayK x.1 = true := (mayCe_iff.1 h).1
  unfold mayK at hk
  rw [decide_eq_true_iff] at hk
  intro t ht
  rcases List.mem_cons.1 ht with e | e
  · rw [e, bytesL_len]; omega
  · rw [List.mem_singleton.1 e]; have := num_len9 (zzN x.2); omega
theorem celB_inj {x y : Ce} (hx : mayCe x = true) (hy : mayCe y = true) (h : celB x = celB y) : x = y := by
  have e := pack_inj (by simp) (by simp) (fun t ht => Nat.le_trans (celB_texts hx t ht) (by decide)) (fun t ht => Nat.le_trans (celB_texts hy t ht) (by decide)) h
  simp only [List.cons.injEq] at e
  exact Prod.ext (bytesL_inj e.1) (zzN_inj (num_inj (zzN_bd (mayCe_iff.1 hx).2.2) (zzN_bd (mayCe_iff.1 hy).2.2) e.2.1))
theorem celB_len {x : Ce} (h : mayCe x = true) : (celB x).length ≤ 91 := by
  have := pack_len (celB_texts h)
  unfold celB
  simp only [List.length_cons, List.length_nil] at this
  omega
theorem accB_texts {x : Ac} (h : mayAc x = true) : (∀ t ∈ bytesL x.1 :: x.2.map (fun n => num (zzN n)), t.length ≤ 32) ∧ (bytesL x.1 :: x.2.map (fun n => num (zzN n))).length = 6 := by
  obtain ⟨hk, h5, _, _⟩ := mayAc_iff.1 h
  unfold mayK at hk
  rw [decide_eq_true_iff] at hk
  refine ⟨fun t ht => ?_, by rw [List.length_cons, List.length_map, h5]⟩
  rcases List.mem_cons.1 ht with e | e
  · rw [e, bytesL_len]; omega
  · obtain ⟨n, _, rfl⟩ := List.mem_map.1 e; have := num_len9 (zzN n); omega
theorem nums_inj : ∀ {a b : List Int}, (∀ n ∈ a, -top40 ≤ n ∧ n ≤ top40) → (∀ n ∈ b, -top40 ≤ n ∧ n ≤ top40) → a.map (fun n => num (zzN n)) = b.map (fun n => num (zzN n)) → a = b
  | [], [], _, _, _ => rfl
  | [], y :: b, _, _, h => by simp at h
  | x :: a, [], _, _, h => by simp at h
  | x :: a, y :: b, h1, h2, h => by
    simp only [List.map_cons, List.cons.injEq] at h
    rw [zzN_inj (num_inj (zzN_bd (h1 x List.mem_cons_self)) (zzN_bd (h2 y List.mem_cons_self)) h.1), nums_inj (fun n hn => h1 n (List.mem_cons_of_mem _ hn)) (fun n hn => h2 n (List.mem_cons_of_mem _ hn)) h.2]
theorem mayAc_nums {x : Ac} (h : mayAc x = true) : ∀ n ∈ x.2, -top40 ≤ n ∧ n ≤ top40 := fun n hn => by
  have := List.all_eq_true.1 (mayAc_iff.1 h).2.2.1 n hn
  simpa using this
theorem accB_inj {x y : Ac} (hx : mayAc x = true) (hy : mayAc y = true) (h : accB x = accB y) : x = y := by
  have qx := accB_texts hx
  have qy := accB_texts hy
  have e := pack_inj (by omega) (by omega) (fun t ht => Nat.le_trans (qx.1 t ht) (by decide)) (fun t ht => Nat.le_trans (qy.1 t ht) (by decide)) h
  simp only [List.cons.injEq] at e
  exact Prod.ext (bytesL_inj e.1) (nums_inj (mayAc_nums hx) (mayAc_nums hy) e.2)
theorem accB_len {x : Ac} (h : mayAc x = true) : (accB x).length ≤ 255 := by
  have q := accB_texts h
  have := pack_len q.1
  unfold accB
  rw [q.2] at this
  omega
theorem notB_texts {x : Nt} (h : mayNt x = true) : ∀ t ∈ [bytesL x.1, num x.2.1, num x.2.2.1, bytesL x.2.2.2], t.length ≤ 64 := by
  obtain ⟨hk, _, _, hw⟩ := mayNt_iff.1 h
  unfold mayK at hk
  rw [decide_eq_true_iff] at hk
  intro t ht
  simp only [List.mem_cons, List.not_mem_nil, or_false] at ht
  rcases ht with e | e | e | e
  · rw [e, bytesL_len]; omega
  · rw [e]; have := num_len9 x.2.1; omega
  · rw [e]; have := num_len9 x.2.2.1; omega
  · rw [e, bytesL_len]; exact hw
theorem notB_inj {x y : Nt} (hx : mayNt x = true) (hy : mayNt y = true) (h : notB x = notB y) : x = y := by
  have e := pack_inj (by simp) (by simp) (fun t ht => Nat.le_trans (notB_texts hx t ht) (by decide)) (fun t ht => Nat.le_trans (notB_texts hy t ht) (by decide)) h
  simp only [List.cons.injEq] at e
  have qx := mayNt_iff.1 hx
  have qy := mayNt_iff.1 hy
  exact Prod.ext (bytesL_inj e.1) (Prod.ext (num_inj ⟨by omega, by omega⟩ ⟨by omega, by omega⟩ e.2.1) (Prod.ext (num_inj ⟨by omega, by omega⟩ ⟨by omega, by omega⟩ e.2.2.1) (bytesL_inj e.2.2.2.1)))
theorem notB_len {x : Nt} (h : mayNt x = true) : (notB x).length ≤ 301 := by
  have := pack_len (notB_texts h)
  unfold notB
  simp only [List.length_cons, List.length_nil] at this
  omega
/-! All things -/
theorem map_inj {α β : Type} {f : α → β} {p : α → Prop} (hf : ∀ x y, p x → p y → f x = f y → x = y) : ∀ {a b : List α}, (∀ x ∈ a, p x) → (∀ x ∈ b, p x) → a.map f = b.map f → a = b
  | [], [], _, _, _ => rfl
  | [], y :: b, _, _, h => by simp at h
  | x :: a, [], _, _, h => by simp at h
  | x :: a, y :: b, h1, h2, h => by
    simp only [List.map_cons, List.cons.injEq] at h
    rw [hf x y (h1 x List.mem_cons_self) (h2 y List.mem_cons_self) h.1, map_inj hf (fun z hz => h1 z (List.mem_cons_of_mem _ hz)) (fun z hz => h2 z (List.mem_cons_of_mem _ hz)) h.2]
theorem thing_inj {α : Type} {f : α → List Int} {p : α → Prop} {B N : Nat} (hN : N ≤ 1000000) (hB : B ≤ 1000000) (hf : ∀ x y, p x → p y → f x = f y → x = y) (hl : ∀ x, p x → (f x).length ≤ B) {a b : List α} (ha : a.length ≤ N) (hb : b.length ≤ N) (pa : ∀ x ∈ a, p x) (pb : ∀ x ∈ b, p x) (h : pack (a.map f) = pack (b.map f)) : a = b := by
  refine map_inj hf pa pb (pack_inj (by rw [List.length_map]; omega) (by rw [List.length_map]; omega) (fun t ht => ?_) (fun t ht => ?_) h)
  · obtain ⟨x, hx, rfl⟩ := List.mem_map.1 ht
    exact Nat.le_trans (hl x (pa x hx)) hB
  · obtain ⟨x, hx, rfl⟩ := List.mem_map.1 ht
    exact Nat.le_trans (hl x (pb x hx)) hB
/-- Raw that is plain, and not too great: N keys a set, with L dots each. -/
structure SmW (N L : Nat) (w : Rw) : Prop where
  sets : ∀ s ∈ w.1, s.length ≤ N ∧ ∀ x ∈ s, EnS L x
  tal : ∀ s ∈ w.2.1, s.length ≤ 250 ∧ ∀ x ∈ s, mayCe x = true
  acc : ∀ s ∈ w.2.2.1, s.length ≤ 250 ∧ ∀ x ∈ s, mayAc x = true
  reg : ∀ s ∈ w.2.2.2, s.length ≤ 250 ∧ ∀ x ∈ s, mayNt x = true
theorem thing_len {α : Type} {f : α → List Int} {s : List α} {B : Nat} (h : ∀ x ∈ s, (f x).length ≤ B) : (pack (s.map f)).length ≤ 9 + s.length * (B + 9) := by
  have := pack_len (B := B) (l := s.map f) (fun t ht => by obtain ⟨x, hx, rfl⟩ := List.mem_map.1 ht; exact h x hx)
  rw [List.length_map] at this
  exact this
theorem SmW.texts {N L : Nat} {w : Rw} (h : SmW N L w) (hNL : 9 + N * (59 + 36 * L) ≤ 100000) : ∀ t ∈ allB w, t.length ≤ 100000 := by
  intro t ht
  unfold allB at ht
  simp only [List.mem_append, List.mem_map] at ht
  rcases ht with ((⟨s, hs, rfl⟩ | ⟨s, hs, rfl⟩) | ⟨s, hs, rfl⟩) | ⟨s, hs, rfl⟩
  · obtain ⟨h1, h2⟩ := h.sets s hs
    have q := thing_len (f := entB) (s := s) (fun x hx => entB_len (h2 x hx))
    have : s.length * (50 + 36 * L + 9) ≤ N * (50 + 36 * L + 9) := Nat.mul_le_mul_right _ h1
    rw [show 59 + 36 * L = 50 + 36 * L + 9 by omega] at hNL
    omega
  · obtain ⟨h1, h2⟩ := h.tal s hs
    have q := thing_len (f := celB) (s := s) (fun x hx => celB_len (h2 x hx))
    omega
  · obtain ⟨h1, h2⟩ := h.acc s hs
    have q := thing_len (f := accB) (s := s) (fun x hx => accB_len (h2 x hx))
    omega
  · obtain ⟨h1, h2⟩ := h.reg s hs
    have q := thing_len (f := notB) (s := s) (fun x hx => notB_len (h2 x hx))
    omega
/-- Raws of the same kinds that have the same bytes are the same. -/
theorem bytRw_inj {N L : Nat} (hL : L ≤ 400) (hN : N ≤ 1000) (hNL : 9 + N * (59 + 36 * L) ≤ 100000) {v w : Rw} (hv : SmW N L v) (hw : SmW N L w) (l1 : v.1.length = w.1.length) (l2 : v.2.1.length = w.2.1.length) (l3 : v.2.2.1.length = w.2.2.1.length) (l4 : v.2.2.2.length = w.2.2.2.length) (hf : (allB v).length ≤ 1000) (h : bytRw v = bytRw w) : v = w := by
  have hlen : (allB w).length = (allB v).length := by unfold allB; simp [l1, l2, l3, l4]
  have e := pack_inj (by omega) (by omega) (fun t ht => Nat.le_trans (hv.texts hNL t ht) (by decide)) (fun t ht => Nat.le_trans (hw.texts hNL t ht) (by decide)) h
  unfold allB at e
  obtain ⟨e3, e4⟩ := List.append_inj e (by simp [l1, l2, l3])
  obtain ⟨e2, e3⟩ := List.append_inj e3 (by simp [l1, l2])
  obtain ⟨e1, e2⟩ := List.append_inj e2 (by simp [l1])
  refine Prod.ext ?_ (Prod.ext ?_ (Prod.ext ?_ ?_))
  · exact map_inj (p := fun s => s.length ≤ N ∧ ∀ x ∈ s, EnS L x) (fun a b ha hb q => thing_inj (p := EnS L) (by omega) (B := 50 + 36 * L) (by omega) (fun x y hx hy => entB_inj hL hx hy) (fun x hx => entB_len hx) ha.1 hb.1 ha.2 hb.2 q) hv.sets hw.sets e1
  · exact map_inj (p := fun s => s.length ≤ 250 ∧ ∀ x ∈ s, mayCe x = true) (fun a b ha hb q => thing_inj (p := fun x => mayCe x = true) (N := 250) (B := 91) (by decide) (by decide) (fun x y hx hy => celB_inj hx hy) (fun x hx => celB_len hx) ha.1 hb.1 ha.2 hb.2 q) hv.tal hw.tal e2
  · exact map_inj (p := fun s => s.length ≤ 250 ∧ ∀ x ∈ s, mayAc x = true) (fun a b ha hb q => thing_inj (p := fun x => mayAc x = true) (N := 250) (B := 255) (by decide) (by decide) (fun x y hx hy => accB_inj hx hy) (fun x hx => accB_len hx) ha.1 hb.1 ha.2 hb.2 q) hv.acc hw.acc e3
  · exact map_inj (p := fun s => s.length ≤ 250 ∧ ∀ x ∈ s, mayNt x = true) (fun a b ha hb q => thing_inj (p := fun x => mayNt x = true) (N := 250) (B := 301) (by decide) (by decide) (fun x y hx hy => notB_inj hx hy) (fun x hx => notB_len hx) ha.1 hb.1 ha.2 hb.2 q) hv.reg hw.reg e4
end Go.Proofs.YtkbbegbpkndebaaGreat

