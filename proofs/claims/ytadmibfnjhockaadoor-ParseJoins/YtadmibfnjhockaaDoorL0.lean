/- Tokens of a text (layer 14), in plain mathematics. -/
import Derived.Test.YtadmibfnjhockaaDoorGBase
namespace Go.Proofs.YtadmibfnjhockaaDoor
set_option linter.unusedVariables false
/-- Kind, Text, N, Line. -/
abbrev Tk := Int × ByteArray × Int × Int
def isLt (c : Int) : Bool := decide (97 ≤ c ∧ c ≤ 122)
def isDg (c : Int) : Bool := decide (48 ≤ c ∧ c ≤ 57)
def isWd (c : Int) : Bool := isLt c || isDg c || decide (c = 45)
/-- A word. -/
def wordB (l : List Int) : Bool := match l with
  | [] => false
  | c :: t => isLt c && t.all (fun x => isLt x || isDg x) && decide (t.length < 16)
/-- The digits of a number from nought. -/
def digU : Nat → Nat → List Int
  | 0, _ => []
  | f + 1, n => if n < 10 then [48 + (n : Int)] else digU f (n / 10) ++ [48 + ((n % 10 : Nat) : Int)]
/-- The digits of a number. -/
def digs (n : Int) : List Int := if n < 0 then 45 :: digU 5 n.natAbs else digU 5 n.toNat
/-- The number that a text is. -/
def valU (l : List Int) : Nat := (l.filter isDg).foldl (fun n c => 10 * n + (c - 48).toNat) 0
def valN (l : List Int) : Int := if l.head? = some 45 then -(valU (l.take 6) : Int) else (valU (l.take 6) : Int)
def numB (l : List Int) : Bool := decide (-9999 ≤ valN l ∧ valN l ≤ 9999 ∧ digs (valN l) = l)
/-- The token that a word or a number is. -/
def tokW (l : List Int) (ln : Int) : Option Tk := if wordB l = true then some (1, strOfNums l, 0, ln) else if numB l = true then some (2, ⟨#[]⟩, valN l, ln) else none
/-- What is read so far: the line, the tokens; or the line and why not. -/
abbrev LxR := Except (Int × Int) (Int × List Tk)
def pushT (out : List Tk) (t : Tk) (ln2 : Int) (k : Int → List Tk → LxR) : LxR := if 800 < out.length + 1 then .error (t.2.2.2, 7) else k ln2 (out ++ [t])
/-- A text is gone through. -/
def lexP : Nat → List Int → Int → List Tk → LxR
  | 0, _, ln, out => .ok (ln, out)
  | f + 1, l, ln, out => match l with
    | [] => .ok (ln, out)
    | c :: t =>
      if c = 32 ∨ c = 9 then lexP f t ln out
      else if c = 35 then lexP f (t.dropWhile (fun x => decide (x ≠ 10))) ln out
      else if c = 58 then pushT out (3, ⟨#[]⟩, 0, ln) ln (lexP f t)
      else if c = 44 then pushT out (4, ⟨#[]⟩, 0, ln) ln (lexP f t)
      else if c = 10 then pushT out (5, ⟨#[]⟩, 0, ln) (ln + 1) (lexP f t)
      else if isWd c = true then match tokW (c :: t.takeWhile isWd) ln with
        | none => .error (ln, 2)
        | some tk => pushT out tk ln (lexP f (t.dropWhile isWd))
      else .error (ln, 2)
/-- What Read tells. -/
def finL : LxR → List Tk × Int × Int
  | .error (ln, e) => ([], ln, e)
  | .ok (ln, out) => if 800 < out.length + 1 then ([], ln, 7) else (out ++ [(0, ⟨#[]⟩, 0, ln)], 0, 0)
def lexB (l : List Int) : List Tk × Int × Int := if 4096 < l.length then ([], 0, 7) else finL (lexP l.length l 1 [])
/-! Fuel does not matter, if there is enough of it -/
theorem dropW_len {p : Int → Bool} (l : List Int) : (l.dropWhile p).length ≤ l.length := by
  induction l with
  | nil => simp
  | cons c t ih =>
    rw [List.dropWhile_cons]
    split
    · simp only [List.length_cons]; omega
    · exact Nat.le_refl _
theorem pushT_congr {out : List Tk} {t : Tk} {ln : Int} {k k' : Int → List Tk → LxR} (h : ∀ ln out, k ln out = k' ln out) : pushT out t ln k = pushT out t ln k' := by
  unfold pushT
  rw [h]
theorem lexP_fuel : ∀ (f g : Nat) (l : List Int) (ln : Int) (out : List Tk), l.length ≤ f → l.length ≤ g → lexP f l ln out = lexP g l ln out
  | 0, 0, l, ln, out, hf, hg => rfl
  | 0, g + 1, l, ln, out, hf, hg => by
    have : l = [] := List.length_eq_zero_iff.1 (by omega)
    subst this
    rfl
  | f + 1, 0, l, ln, out, hf, hg => by
    have : l = [] := List.length_eq_zero_iff.1 (by omega)
    subst this
    rfl
  | f + 1, g + 1, [], ln, out, hf, hg => rfl
  | f + 1, g + 1, c :: t, ln, out, hf, hg => by
    have ht : t.length ≤ f := by simp only [List.length_cons] at hf; omega
    have ht2 : t.length ≤ g := by simp only [List.length_cons] at hg; omega
    have e0 : ∀ ln out, lexP f t ln out = lexP g t ln out := fun ln out => lexP_fuel f g t ln out ht ht2
    have e1 : ∀ p ln out, lexP f (t.dropWhile p) ln out = lexP g (t.dropWhile p) ln out := fun p ln out => lexP_fuel f g _ ln out (Nat.le_trans (dropW_len t) ht) (Nat.le_trans (dropW_len t) ht2)
    simp only [lexP]
    rw [e0, e1, pushT_congr e0, pushT_congr (ln := ln) e0, pushT_congr (ln := ln + 1) e0]
    split
    · rfl
    split
    · rfl
    split
    · rfl
    split
    · rfl
    split
    · rfl
    split
    · split
      · rfl
      · exact pushT_congr (e1 isWd)
    · rfl
/-! What stands behind a line feed -/
def bindL : LxR → (Int → List Tk → LxR) → LxR
  | .error e, _ => .error e
  | .ok (ln, out), k => k ln out
theorem bind_push {out : List Tk} {t : Tk} {ln : Int} {k : Int → List Tk → LxR} {q : Int → List Tk → LxR} : bindL (pushT out t ln k) q = pushT out t ln (fun ln out => bindL (k ln out) q) := by
  unfold pushT
  split
  · rfl
  · rfl
/-- A run of bytes that stops at a line feed. -/
theorem dropW_app {p : Int → Bool} (hp : p 10 = false) (l m : List Int) : (l ++ 10 :: m).dropWhile p = (l ++ [10]).dropWhile p ++ m := by
  induction l with
  | nil => simp [hp]
  | cons c t ih =>
    simp only [List.cons_append, List.dropWhile_cons]
    split
    · exact ih
    · simp
theorem takeW_app {p : Int → Bool} (hp : p 10 = false) (l m : List Int) : (l ++ 10 :: m).takeWhile p = (l ++ [10]).takeWhile p := by
  induction l with
  | nil => simp [hp]
  | cons c t ih =>
    simp only [List.cons_append, List.takeWhile_cons]
    split
    · rw [ih]
    · rfl
theorem dropW_ends {p : Int → Bool} (hp : p 10 = false) (l : List Int) : ∃ l', (l ++ [10]).dropWhile p = l' ++ [10] ∧ l'.length ≤ l.length := by
  induction l with
  | nil => exact ⟨[], by simp [hp], Nat.le_refl _⟩
  | cons c t ih =>
    simp only [List.cons_append, List.dropWhile_cons]
    split
    · obtain ⟨l', h1, h2⟩ := ih
      exact ⟨l', h1, by simp only [List.length_cons]; omega⟩
    · exact ⟨c :: t, by simp, Nat.le_refl _⟩
theorem isWd10 : isWd 10 = false := by decide
theorem lexP_lines : ∀ (n : Nat) (l m : List Int) (ln : Int) (out : List Tk), l.length ≤ n → ∀ f g h, l.length + 1 + m.length ≤ f → l.length + 1 ≤ g → m.length ≤ h → lexP f (l ++ 10 :: m) ln out = bindL (lexP g (l ++ [10]) ln out) (lexP h m)
  | n, [], m, ln, out, hn, f, g, h, hf, hg, hh => by
    obtain ⟨f, rfl⟩ : ∃ f', f = f' + 1 := ⟨f - 1, by simp at hf; omega⟩
    obtain ⟨g, rfl⟩ : ∃ g', g = g' + 1 := ⟨g - 1, by simp at hg; omega⟩
    have e : ∀ ln out, lexP f m ln out = bindL (lexP g [] ln out) (lexP h m) := fun ln out => by
      have : lexP g [] ln out = .ok (ln, out) := by cases g <;> rfl
      rw [this]
      exact lexP_fuel f h m ln out (by simp at hf; omega) hh
    show pushT out (5, ⟨#[]⟩, 0, ln) (ln + 1) (lexP f m) = bindL (pushT out (5, ⟨#[]⟩, 0, ln) (ln + 1) (lexP g [])) (lexP h m)
    rw [bind_push]
    exact pushT_congr e
  | 0, c :: t, m, ln, out, hn, f, g, h, hf, hg, hh => by simp at hn
  | n + 1, c :: t, m, ln, out, hn, f, g, h, hf, hg, hh => by
    simp only [List.length_cons] at hn hf hg
    obtain ⟨f, rfl⟩ : ∃ f', f = f' + 1 := ⟨f - 1, by omega⟩
    obtain ⟨g, rfl⟩ : ∃ g', g = g' + 1 := ⟨g - 1, by omega⟩
    have e0 : ∀ ln out, lexP f (t ++ 10 :: m) ln out = bindL (lexP g (t ++ [10]) ln out) (lexP h m) := fun ln out => lexP_lines n t m ln out (by omega) f g h (by omega) (by omega) hh
    have e1 : ∀ p : Int → Bool, p 10 = false → ∀ ln out, lexP f ((t ++ 10 :: m).dropWhile p) ln out = bindL (lexP g ((t ++ [10]).dropWhile p) ln out) (lexP h m) := fun p hp ln out => by
      obtain ⟨l', h1, h2⟩ := dropW_ends hp t
      rw [dropW_app hp, h1, List.append_assoc]
      exact lexP_lines n l' m ln out (by omega) f g h (by omega) (by omega) hh
    simp only [List.cons_append, lexP]
    split
    · exact e0 _ _
    split
    · exact e1 _ (by decide) _ _
    split
    · rw [bind_push]; exact pushT_congr e0
    split
    · rw [bind_push]; exact pushT_congr e0
    split
    · rw [bind_push]; exact pushT_congr e0
    split
    · rw [takeW_app isWd10]
      split
      · rfl
      · rw [bind_push]; exact pushT_congr (e1 isWd isWd10)
    · rfl
/-- Tokens that were read stay. -/
def OkL (out : List Tk) : LxR → Prop
  | .error (ln', e) => 1 ≤ ln' ∧ (e = 2 ∨ e = 7)
  | .ok (ln', o') => 1 ≤ ln' ∧ ∃ m, o' = out ++ m
theorem OkL.push {out : List Tk} {tk : Tk} {r : LxR} (h : OkL (out ++ [tk]) r) : OkL out r := by
  match r, h with
  | .error (ln', e), h => exact h
  | .ok (ln', o'), ⟨h1, m, h2⟩ => exact ⟨h1, tk :: m, by rw [h2]; simp⟩
theorem tokW_line {l : List Int} {ln : Int} {tk : Tk} (h : tokW l ln = some tk) : tk.2.2.2 = ln := by
  unfold tokW at h
  split at h
  · cases h; rfl
  · split at h
    · cases h; rfl
    · cases h
theorem lexP_more : ∀ (f : Nat) (l : List Int) (ln : Int) (out : List Tk), 1 ≤ ln → OkL out (lexP f l ln out)
  | 0, l, ln, out, hl => ⟨hl, [], by simp⟩
  | f + 1, [], ln, out, hl => ⟨hl, [], by simp⟩
  | f + 1, c :: t, ln, out, hl => by
    have push : ∀ (tk : Tk) (ln2 : Int) (r : List Int), tk.2.2.2 = ln → 1 ≤ ln2 → OkL out (pushT out tk ln2 (lexP f r)) := fun tk ln2 r ht h2 => by
      unfold pushT
      split
      · exact ⟨by omega, .inr rfl⟩
      · exact (lexP_more f r ln2 (out ++ [tk]) h2).push
    simp only [lexP]
    split
    · exact lexP_more f t ln out hl
    split
    · exact lexP_more f _ ln out hl
    split
    · exact push _ _ _ rfl hl
    split
    · exact push _ _ _ rfl hl
    split
    · exact push _ _ _ rfl (by omega)
    split
    · split
      · exact ⟨hl, .inl rfl⟩
      · next e => exact push _ _ _ (tokW_line e) hl
    · exact ⟨hl, .inl rfl⟩
/-! The theorem of lines -/
theorem lexB_lines {s m : List Int} (hs : s.length ≤ 2000) (hm : m.length ≤ 2000) : lexB (s ++ [10]) = finL (lexP (s.length + 1) (s ++ [10]) 1 []) ∧ lexB (s ++ 10 :: m) = finL (bindL (lexP (s.length + 1) (s ++ [10]) 1 []) (lexP m.length m)) := by
  refine ⟨?_, ?_⟩
  · unfold lexB
    rw [if_neg (by simp only [List.length_append, List.length_cons, List.length_nil]; omega), List.length_append]
    rfl
  · unfold lexB
    rw [if_neg (by simp only [List.length_append, List.length_cons]; omega), lexP_lines s.length s m 1 [] (Nat.le_refl _) _ (s.length + 1) m.length (by simp only [List.length_append, List.length_cons]; omega) (by omega) (Nat.le_refl _)]
/-- What LexLines asks, of what is told of a text and of more. -/
theorem lines14 {s m : List Int} (hs : s.length ≤ 2000) (hm : m.length ≤ 2000) (a b : List Tk) (x y e f : Int) (ha : lexB (s ++ [10]) = (a, x, e)) (hb : lexB (s ++ 10 :: m) = (b, y, f)) :
    e = 7 ∨ (e ≠ 7 ∧ e ≠ 0 ∧ x = y ∧ e = f ∧ b = []) ∨ (e = 0 ∧ f ≠ 0 ∧ (f = 7 ∨ f = 2) ∧ 0 < y ∧ b = []) ∨ (e = 0 ∧ f = 0 ∧ ∃ out t1 t2, a = out ++ [t1] ∧ b = out ++ t2 ∧ t2 ≠ []) := by
  obtain ⟨h1, h2⟩ := lexB_lines hs hm
  rw [h1] at ha
  rw [h2] at hb
  have q := lexP_more (s.length + 1) (s ++ [10]) 1 [] (by omega)
  rcases hr : lexP (s.length + 1) (s ++ [10]) 1 [] with ⟨l1, e1⟩ | ⟨l1, o1⟩
  · rw [hr] at ha hb q
    simp only [finL, bindL, Prod.mk.injEq] at ha hb
    obtain ⟨rfl, rfl, rfl⟩ := ha
    obtain ⟨rfl, rfl, rfl⟩ := hb
    rcases q.2 with h | h
    · exact .inr (.inl ⟨by omega, by omega, rfl, rfl, rfl⟩)
    · exact .inl h
  · rw [hr] at ha hb q
    simp only [finL, bindL] at ha hb
    split at ha
    · simp only [Prod.mk.injEq] at ha
      exact .inl ha.2.2.symm
    · simp only [Prod.mk.injEq] at ha
      obtain ⟨rfl, rfl, rfl⟩ := ha
      have q2 := lexP_more m.length m l1 o1 q.1
      rcases hr2 : lexP m.length m l1 o1 with ⟨l2, e2⟩ | ⟨l2, o2⟩
      · rw [hr2] at hb q2
        simp only [Prod.mk.injEq] at hb
        obtain ⟨rfl, rfl, rfl⟩ := hb
        exact .inr (.inr (.inl ⟨rfl, by rcases q2.2 with h | h <;> omega, q2.2.symm, by have := q2.1; omega, rfl⟩))
      · rw [hr2] at hb q2
        obtain ⟨q3, mm, rfl⟩ := q2
        simp only at hb
        split at hb
        · simp only [Prod.mk.injEq] at hb
          obtain ⟨rfl, rfl, rfl⟩ := hb
          exact .inr (.inr (.inl ⟨rfl, by omega, .inl rfl, by omega, rfl⟩))
        · simp only [Prod.mk.injEq] at hb
          obtain ⟨rfl, rfl, rfl⟩ := hb
          exact .inr (.inr (.inr ⟨rfl, rfl, o1, _, mm ++ [(0, ⟨#[]⟩, 0, l2)], rfl, by simp, by simp⟩))
end Go.Proofs.YtadmibfnjhockaaDoor
