/- Tokens in memory; a text gone through step by step (layer 14). -/
import Derived.Test.YtadmibfnjhockaaDoorL5
import Derived.Test.YtadmibfnjhockaaDoorGPut
namespace Go.Proofs.YtadmibfnjhockaaDoor
open Go.RowKit Go.Lib
set_option linter.unusedVariables false
def encTk (t : Tk) : List Value := [.int .i64 t.1, .string t.2.1, .int .i64 t.2.2.1, .int .i64 t.2.2.2]
theorem encTk_len (t : Tk) : (encTk t).length = 4 := rfl
theorem encTk_one (t : Tk) : ∀ v ∈ encTk t, v.oneCell' = true := fun v hv => by
  simp only [encTk, List.mem_cons, List.not_mem_nil, or_false] at hv
  rcases hv with rfl | rfl | rfl | rfl <;> rfl
theorem Tryd.infoTk : (Tryd.prog.info? 40).map (fun i => (i.zero, i.size, i.bytes)) = some (some (.agg #[.int .i64 0, .string ⟨#[]⟩, .int .i64 0, .int .i64 0]), 4, 40) := by kernel_rfl
/-- Tokens of a slice. -/
abbrev KS (w : World) (a : Option Addr) (n : Nat) (l : List Tk) : Prop := RS encTk 4 w a n l
/-- Tokens of the call's own. -/
abbrev OK14 (N : Nat) (w : World) (v : Value) (l : List Tk) : Prop := OwnR encTk 4 40 N w v l
theorem OK14.made (w : World) (N : Nat) (hN : N ≤ w.heap.size) : OK14 N (w.alloc (.cells #[] 40)) (.slice (some ⟨w.heap.size, 0, none⟩) 0 0) [] := World.ownsRow_lit (e := 40) (size := 4) w #[] 0 hN (by decide) rfl
theorem OK14.fresh {N : Nat} {w : World} {v : Value} {l : List Tk} (h : OK14 N w v l) : v.ownBlock ≠ some w.heap.size := by
  rcases h.2 with ⟨rfl, _⟩ | ⟨g, cap, cur, rfl, hb, hg, _⟩
  · intro hh; simp [Value.ownBlock] at hh
  · intro hh
    simp [Value.ownBlock] at hh
    have := (Array.getElem?_eq_some_iff.1 hg).1
    omega
theorem OK14.put {N : Nat} {w : World} {v : Value} {l : List Tk} {g : Nat} (h : OK14 N w v l) (hg : v.ownBlock ≠ some g) (i : Nat) (a : Value) : OK14 N (w.setCell ⟨g, i, none⟩ a) v l := by
  refine ⟨h.1, ?_⟩
  rcases h.2 with hn | ⟨g', cap, cur, rfl, hb, hgg, rest⟩
  · exact .inl hn
  · refine .inr ⟨g', cap, cur, rfl, hb, ?_, rest⟩
    have hne : g ≠ g' := fun e => hg (by rw [e]; simp [Value.ownBlock])
    simp [World.setCell, Array.getElem?_modify, hne]
    simpa using hgg
/-- A text gone through, with fuel enough. -/
def lexS (l : List Int) (ln : Int) (out : List Tk) : LxR := lexP l.length l ln out
theorem lexS_nil (ln : Int) (out : List Tk) : lexS [] ln out = .ok (ln, out) := rfl
theorem lexS_drop (p : Int → Bool) (t : List Int) (ln : Int) (out : List Tk) : lexP t.length (t.dropWhile p) ln out = lexS (t.dropWhile p) ln out := lexP_fuel _ _ _ _ _ (dropW_len t) (Nat.le_refl _)
theorem lexS_blank {c : Int} (h : c = 32 ∨ c = 9) (t : List Int) (ln : Int) (out : List Tk) : lexS (c :: t) ln out = lexS t ln out := by
  unfold lexS
  rw [List.length_cons, lexP, if_pos h]
theorem lexS_hash (t : List Int) (ln : Int) (out : List Tk) : lexS (35 :: t) ln out = lexS (t.dropWhile (fun x => decide (x ≠ 10))) ln out := by
  show lexP (t.length + 1) (35 :: t) ln out = _
  rw [lexP, if_neg (by decide), if_pos rfl]
  exact lexS_drop _ t ln out
theorem lexS_colon (t : List Int) (ln : Int) (out : List Tk) : lexS (58 :: t) ln out = pushT out (3, ⟨#[]⟩, 0, ln) ln (lexS t) := by
  show lexP (t.length + 1) (58 :: t) ln out = _
  rw [lexP, if_neg (by decide), if_neg (by decide), if_pos rfl]
  rfl
theorem lexS_comma (t : List Int) (ln : Int) (out : List Tk) : lexS (44 :: t) ln out = pushT out (4, ⟨#[]⟩, 0, ln) ln (lexS t) := by
  show lexP (t.length + 1) (44 :: t) ln out = _
  rw [lexP, if_neg (by decide), if_neg (by decide), if_neg (by decide), if_pos rfl]
  rfl
theorem lexS_line (t : List Int) (ln : Int) (out : List Tk) : lexS (10 :: t) ln out = pushT out (5, ⟨#[]⟩, 0, ln) (ln + 1) (lexS t) := by
  show lexP (t.length + 1) (10 :: t) ln out = _
  rw [lexP, if_neg (by decide), if_neg (by decide), if_neg (by decide), if_neg (by decide), if_pos rfl]
  rfl
theorem lexS_none {c : Int} (h : isWd c = true) (t : List Int) (ln : Int) (out : List Tk) (hk : tokW (c :: t.takeWhile isWd) ln = none) : lexS (c :: t) ln out = .error (ln, 2) := by
  have n := isWd_not h
  show lexP (t.length + 1) (c :: t) ln out = _
  rw [lexP, if_neg n.1, if_neg n.2.1, if_neg n.2.2.1, if_neg n.2.2.2.1, if_neg n.2.2.2.2, if_pos h, hk]
theorem lexS_word {c : Int} (h : isWd c = true) (t : List Int) (ln : Int) (out : List Tk) {tk : Tk} (hk : tokW (c :: t.takeWhile isWd) ln = some tk) : lexS (c :: t) ln out = pushT out tk ln (lexS (t.dropWhile isWd)) := by
  have n := isWd_not h
  show lexP (t.length + 1) (c :: t) ln out = _
  rw [lexP, if_neg n.1, if_neg n.2.1, if_neg n.2.2.1, if_neg n.2.2.2.1, if_neg n.2.2.2.2, if_pos h, hk]
  exact pushT_congr (lexS_drop isWd t)
theorem lexS_bad {c : Int} (h1 : ¬ (c = 32 ∨ c = 9)) (h2 : c ≠ 35) (h3 : c ≠ 58) (h4 : c ≠ 44) (h5 : c ≠ 10) (h6 : isWd c = false) (t : List Int) (ln : Int) (out : List Tk) : lexS (c :: t) ln out = .error (ln, 2) := by
  show lexP (t.length + 1) (c :: t) ln out = _
  rw [lexP, if_neg h1, if_neg h2, if_neg h3, if_neg h4, if_neg h5, if_neg (by rw [h6]; decide)]
theorem push_ok {out : List Tk} {t : Tk} {ln : Int} {k : Int → List Tk → LxR} (h : out.length + 1 ≤ 800) : pushT out t ln k = k ln (out ++ [t]) := by unfold pushT; rw [if_neg (by omega)]
theorem push_big {out : List Tk} {t : Tk} {ln : Int} {k : Int → List Tk → LxR} (h : 800 < out.length + 1) : pushT out t ln k = .error (t.2.2.2, 7) := by unfold pushT; rw [if_pos h]
/-! Where a run of bytes stops -/
theorem drop_at {l : List Int} {i : Nat} {c : Int} (h : l[i]? = some c) : l.drop i = c :: l.drop (i + 1) := by
  obtain ⟨hi, rfl⟩ := List.getElem?_eq_some_iff.1 h
  exact List.drop_eq_getElem_cons hi
theorem dropW_go {p : Int → Bool} {l : List Int} {i : Nat} {c : Int} (h : l[i]? = some c) (hp : p c = true) : (l.drop i).dropWhile p = (l.drop (i + 1)).dropWhile p := by
  rw [drop_at h, List.dropWhile_cons, if_pos hp]
theorem dropW_stop {p : Int → Bool} {l : List Int} {i : Nat} (h : l.length ≤ i ∨ ∃ c, l[i]? = some c ∧ p c = false) : (l.drop i).dropWhile p = l.drop i := by
  rcases h with h | ⟨c, h, hp⟩
  · rw [List.drop_eq_nil_of_le h]; rfl
  · rw [drop_at h, List.dropWhile_cons, if_neg (by rw [hp]; decide)]
/-- The bytes from a to where the run is. -/
theorem takeW_run {p : Int → Bool} {l : List Int} {a i : Nat} (hai : a ≤ i) (hil : i ≤ l.length) (h : ∀ k c, a ≤ k → k < i → l[k]? = some c → p c = true) (hs : l.length ≤ i ∨ ∃ c, l[i]? = some c ∧ p c = false) : (l.drop a).takeWhile p = (l.drop a).take (i - a) ∧ (l.drop a).dropWhile p = l.drop i := by
  have e : l.drop a = (l.drop a).take (i - a) ++ l.drop i := by
    conv => lhs; rw [← List.take_append_drop (i - a) (l.drop a)]
    rw [List.drop_drop]
    congr 2
    omega
  have q : ∀ c ∈ (l.drop a).take (i - a), p c = true := fun c hc => by
    obtain ⟨k, hk⟩ := List.mem_iff_getElem?.1 hc
    have hk1 := (List.getElem?_eq_some_iff.1 hk).1
    rw [List.length_take] at hk1
    rw [List.getElem?_take, if_pos (by omega), List.getElem?_drop] at hk
    exact h (a + k) c (by omega) (by omega) hk
  have r : l.drop i = [] ∨ ∃ c t, l.drop i = c :: t ∧ p c = false := by
    rcases hs with h | ⟨c, h, hp⟩
    · exact .inl (List.drop_eq_nil_of_le h)
    · exact .inr ⟨c, _, drop_at h, hp⟩
  have z := takeW_all q r
  rw [← e] at z
  exact z
theorem bytesL_cut (s : ByteArray) (a b : Nat) (hb : b ≤ s.size) : bytesL (s.extract a b) = ((bytesL s).drop a).take (b - a) := by
  unfold bytesL
  rw [ByteArray.data_extract, Array.toList_extract]
  simp [List.extract]
end Go.Proofs.YtadmibfnjhockaaDoor
