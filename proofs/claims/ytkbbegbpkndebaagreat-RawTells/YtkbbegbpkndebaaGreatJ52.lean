/- Texts of this claim, joined: H4, H18. -/
import Derived.Test.YtkbbegbpkndebaaGreatJ10
import Derived.Test.YtkbbegbpkndebaaGreatJ47
/- Raw as bytes (layer 13), in plain mathematics: raws that have the same bytes are the same. -/
namespace Go.Proofs.YtkbbegbpkndebaaGreat
set_option linter.unusedVariables false
theorem num_len9 (x : Int) : (num x).length ≤ 9 := by rw [num_len]; have := nb_le x; omega
theorem flat_len {B : Nat} : ∀ {l : List (List Int)}, (∀ t ∈ l, t.length ≤ B) → (l.flatMap text).length ≤ l.length * (B + 9)
 | [], _ => by simp
 | t :: l, h => by
  have h1 := text_len t
  have h2 := h t List.mem_cons_self
  have h3 := flat_len (fun u hu => h u (List.mem_cons_of_mem _ hu))
  rw [List.flatMap_cons, List.length_append, List.length_cons, Nat.succ_mul]
  omega
theorem pack_len {B : Nat} {l : List (List Int)} (h : ∀ t ∈ l, t.length ≤ B) : (pack l).length ≤ 9 + l.length * (B + 9) := by
 have h1 := num_len9 l.length
 have h2 := flat_len h
 unfold pack
 rw [List.length_append]
 omega
/-! Numbers, which may be below 0 -/
def zzN (n : Int) : Int := if 0 ≤ n then 2 * n else -2 * n - 1
/-! Things, key by key -/
def entB (x : En) : List Int := pack (bytesL x.1 :: x.2.1.flatMap (fun d => [num d.1, num d.2]))
def celB (x : Ce) : List Int := pack [bytesL x.1, num (zzN x.2)]
def accB (x : Ac) : List Int := pack (bytesL x.1 :: x.2.map (fun n => num (zzN n)))
def notB (x : Nt) : List Int := pack [bytesL x.1, num x.2.1, num x.2.2.1, bytesL x.2.2.2]
def allB (w : Rw) : List (List Int) := w.1.map (fun s => pack (s.map entB)) ++ w.2.1.map (fun s => pack (s.map celB)) ++ w.2.2.1.map (fun s => pack (s.map accB)) ++ w.2.2.2.map (fun s => pack (s.map notB))
def bytRw (w : Rw) : List Int := pack (allB w)
theorem bytesL_len (k : ByteArray) : (bytesL k).length = k.size := by
 conv => rhs; rw [← str_bytes k, str_size]
structure EnS (L : Nat) (x : En) : Prop where
 key : x.1.size ≤ 32
 dots : ∀ d ∈ x.2.1, mayD d = true
 few : x.2.1.length ≤ L
 dead : x.2.2 = []
theorem dots_len : ∀ (a : List Dot), (a.flatMap (fun d => [num d.1, num d.2])).length = 2 * a.length
 | [] => rfl
 | x :: a => by
  rw [List.flatMap_cons, List.length_append, dots_len a]
  simp
  omega
theorem ent_texts {L : Nat} {x : En} (h : EnS L x) : (∀ t ∈ bytesL x.1 :: x.2.1.flatMap (fun d => [num d.1, num d.2]), t.length ≤ 32) ∧ (bytesL x.1 :: x.2.1.flatMap (fun d => [num d.1, num d.2])).length ≤ 2 * L + 1 := by
 constructor
 ·intro t ht
  rcases List.mem_cons.1 ht with e | e
  ·rw [e, bytesL_len]; exact h.key
  ·obtain ⟨d, _, hd⟩ := List.mem_flatMap.1 e
   rcases List.mem_cons.1 hd with q | q
   ·rw [q]; have := num_len9 d.1; omega
   ·rw [List.mem_singleton.1 q]; have := num_len9 d.2; omega
 ·rw [List.length_cons, dots_len]
  have := h.few
  omega
theorem entB_len {L : Nat} {x : En} (h : EnS L x) : (entB x).length ≤ 50 + 36 * L := by
 have h1 := num_len9 ((bytesL x.1 :: x.2.1.flatMap (fun d => [num d.1, num d.2])).length)
 have h2 := text_len (bytesL x.1)
 have h3 : ((x.2.1.flatMap (fun d => [num d.1, num d.2])).flatMap text).length ≤ (x.2.1.flatMap (fun d => [num d.1, num d.2])).length * (9 + 9) := flat_len (fun t ht => by
  obtain ⟨d, _, hd⟩ := List.mem_flatMap.1 ht
  rcases List.mem_cons.1 hd with q | q
  ·rw [q]; exact num_len9 _
  ·rw [List.mem_singleton.1 q]; exact num_len9 _)
 have h4 := h.few
 have h5 := h.key
 rw [dots_len] at h3
 rw [bytesL_len] at h2
 unfold entB pack
 rw [List.length_append, List.flatMap_cons, List.length_append]
 omega
theorem celB_texts {x : Ce} (h : mayCe x = true) : ∀ t ∈ [bytesL x.1, num (zzN x.2)], t.length ≤ 32 := by
 have hk : mayK x.1 = true := (mayCe_iff.1 h).1
 unfold mayK at hk
 rw [decide_eq_true_iff] at hk
 intro t ht
 rcases List.mem_cons.1 ht with e | e
 ·rw [e, bytesL_len]; omega
 ·rw [List.mem_singleton.1 e]; have := num_len9 (zzN x.2); omega
theorem celB_len {x : Ce} (h : mayCe x = true) : (celB x).length ≤ 91 := by
 have := pack_len (celB_texts h)
 unfold celB
 simp only [List.length_cons, List.length_nil] at this
 omega
theorem accB_texts {x : Ac} (h : mayAc x = true) : (∀ t ∈ bytesL x.1 :: x.2.map (fun n => num (zzN n)), t.length ≤ 32) ∧ (bytesL x.1 :: x.2.map (fun n => num (zzN n))).length = 6 := by
 obtain ⟨hk, h5, _, _⟩ := mayAc_iff.1 h
 unfold mayK at hk
 rw [decide_eq_true_iff] at hk
 refine ⟨fun t ht => ?_, by rw [List.length_cons, List.length_map, h5]⟩
 rcases List.mem_cons.1 ht with e | e
 ·rw [e, bytesL_len]; omega
 ·obtain ⟨n, _, rfl⟩ := List.mem_map.1 e; have := num_len9 (zzN n); omega
theorem mayAc_nums {x : Ac} (h : mayAc x = true) : ∀ n ∈ x.2, -top40 ≤ n ∧ n ≤ top40 := fun n hn => by
 have := List.all_eq_true.1 (mayAc_iff.1 h).2.2.1 n hn
 simpa using this
theorem accB_len {x : Ac} (h : mayAc x = true) : (accB x).length ≤ 255 := by
 have q := accB_texts h
 have := pack_len q.1
 unfold accB
 rw [q.2] at this
 omega
theorem notB_texts {x : Nt} (h : mayNt x = true) : ∀ t ∈ [bytesL x.1, num x.2.1, num x.2.2.1, bytesL x.2.2.2], t.length ≤ 64 := by
 obtain ⟨hk, _, _, hw⟩ := mayNt_iff.1 h
 unfold mayK at hk
 rw [decide_eq_true_iff] at hk
 intro t ht
 simp only [List.mem_cons, List.not_mem_nil, or_false] at ht
 rcases ht with e | e | e | e
 ·rw [e, bytesL_len]; omega
 ·rw [e]; have := num_len9 x.2.1; omega
 ·rw [e]; have := num_len9 x.2.2.1; omega
 ·rw [e, bytesL_len]; exact hw
theorem notB_len {x : Nt} (h : mayNt x = true) : (notB x).length ≤ 301 := by
 have := pack_len (notB_texts h)
 unfold notB
 simp only [List.length_cons, List.length_nil] at this
 omega
structure SmW (N L : Nat) (w : Rw) : Prop where
 sets : ∀ s ∈ w.1, s.length ≤ N ∧ ∀ x ∈ s, EnS L x
 tal : ∀ s ∈ w.2.1, s.length ≤ 250 ∧ ∀ x ∈ s, mayCe x = true
 acc : ∀ s ∈ w.2.2.1, s.length ≤ 250 ∧ ∀ x ∈ s, mayAc x = true
 reg : ∀ s ∈ w.2.2.2, s.length ≤ 250 ∧ ∀ x ∈ s, mayNt x = true
theorem thing_len {α : Type} {f : α → List Int} {s : List α} {B : Nat} (h : ∀ x ∈ s, (f x).length ≤ B) : (pack (s.map f)).length ≤ 9 + s.length * (B + 9) := by
 have := pack_len (B := B) (l := s.map f) (fun t ht => by obtain ⟨x, hx, rfl⟩ := List.mem_map.1 ht; exact h x hx)
 rw [List.length_map] at this
 exact this
theorem SmW.texts {N L : Nat} {w : Rw} (h : SmW N L w) (hNL : 9 + N * (59 + 36 * L) ≤ 100000) : ∀ t ∈ allB w, t.length ≤ 100000 := by
 intro t ht
 unfold allB at ht
 simp only [List.mem_append, List.mem_map] at ht
 rcases ht with ((⟨s, hs, rfl⟩ | ⟨s, hs, rfl⟩) | ⟨s, hs, rfl⟩) | ⟨s, hs, rfl⟩
 ·obtain ⟨h1, h2⟩ := h.sets s hs
  have q := thing_len (f := entB) (s := s) (fun x hx => entB_len (h2 x hx))
  have : s.length * (50 + 36 * L + 9) ≤ N * (50 + 36 * L + 9) := Nat.mul_le_mul_right _ h1
  rw [show 59 + 36 * L = 50 + 36 * L + 9 by omega] at hNL
  omega
 ·obtain ⟨h1, h2⟩ := h.tal s hs
  have q := thing_len (f := celB) (s := s) (fun x hx => celB_len (h2 x hx))
  omega
 ·obtain ⟨h1, h2⟩ := h.acc s hs
  have q := thing_len (f := accB) (s := s) (fun x hx => accB_len (h2 x hx))
  omega
 ·obtain ⟨h1, h2⟩ := h.reg s hs
  have q := thing_len (f := notB) (s := s) (fun x hx => notB_len (h2 x hx))
  omega
end Go.Proofs.YtkbbegbpkndebaaGreat

/- Numbers as bytes, as the document's functions of layer 13 put them. -/
namespace Go.Proofs.YtkbbegbpkndebaaGreat
open Go.RowKit Go.Lib
set_option linter.unusedVariables false
set_option maxHeartbeats 1000000 in
theorem nat13 (n : Int) (w : World) (h0 : 0 ≤ n) (h1 : n ≤ 9223372036854775807) : Calls Tryz.prog 98 #[.int .i64 n] w fun e w' => ∃ v, e = .returned v ∧ Own w.heap.size w' v (num n) ∧ Below w.heap.size w w' := by
 have HN := hide (fun W => refNum_any n W h0 (by omega))
 have hw : IntKind.u64.wrap n = n := by rw [IntKind.wrap_u64]; omega
 go_enter Tryz.func98, Tryz.ntmps98
 go_wp2_with (go_at_call 153; refine (HN.out _).mono ?_; rintro e w1 ⟨v, rfl, ho, hb⟩; have HO := hide ho; have HB := hide hb; clear ho hb)
 go_ret
 exact ⟨_, rfl, HO.out, HB.out⟩
set_option maxHeartbeats 2000000 in
theorem num13 (n : Int) (w : World) (h : -top40 ≤ n ∧ n ≤ top40) : Calls Tryz.prog 100 #[.int .i64 n] w fun e w' => ∃ v, e = .returned v ∧ Own w.heap.size w' v (num (zzN n)) ∧ Below w.heap.size w w' := by
 have ht : top40 = 1099511627776 := rfl
 rw [ht] at h
 by_cases h0 : 0 ≤ n
 ·have e1 : zzN n = 2 * n := by unfold zzN; rw [if_pos h0]
  rw [e1]
  have HN := hide (fun W => refNum_any (2 * n) W (by omega) (by omega))
  have hw1 : IntKind.i64.wrap (2 * n) = 2 * n := by rw [IntKind.wrap_i64]; omega
  have hw2 : IntKind.u64.wrap (2 * n) = 2 * n := by rw [IntKind.wrap_u64]; omega
  clear e1 ht
  go_enter Tryz.func100, Tryz.ntmps100
  go_wp2_with (go_at_call 153; refine (HN.out _).mono ?_; rintro e w1 ⟨v, rfl, ho, hb⟩; have HO := hide ho; have HB := hide hb; clear ho hb)
  go_ret
  exact ⟨_, rfl, HO.out, HB.out⟩
 ·have e1 : zzN n = -2 * n - 1 := by unfold zzN; rw [if_neg h0]
  rw [e1]
  have HN := hide (fun W => refNum_any (-2 * n - 1) W (by omega) (by omega))
  have hw1 : IntKind.i64.wrap (-2 * n) = -2 * n := by rw [IntKind.wrap_i64]; omega
  have hw2 : IntKind.i64.wrap (-2 * n - 1) = -2 * n - 1 := by rw [IntKind.wrap_i64]; omega
  have hw3 : IntKind.u64.wrap (-2 * n - 1) = -2 * n - 1 := by rw [IntKind.wrap_u64]; omega
  clear e1 ht
  go_enter Tryz.func100, Tryz.ntmps100
  go_wp2_with (go_at_call 153; refine (HN.out _).mono ?_; rintro e w1 ⟨v, rfl, ho, hb⟩; have HO := hide ho; have HB := hide hb; clear ho hb)
  go_ret
  exact ⟨_, rfl, HO.out, HB.out⟩
end Go.Proofs.YtkbbegbpkndebaaGreat

