/- The program's reading of a text, rune by rune, against the document's (layer 14), in plain mathematics. -/
import Derived.Test.YtadmibfnjhockaaDoorL6
namespace Go.Proofs.YtadmibfnjhockaaDoor
set_option linter.unusedVariables false
def ptS (out : List Tk) (tk : Tk) : Int × List Tk := if out.length = 800 then (7, out) else (0, out ++ [tk])
/-- What a word's or a number's end makes. -/
def epS (out : List Tk) (ln : Int) (pt : List Int) : Int × List Tk := if pt = [] then (0, out) else match tokW pt ln with
  | none => (2, out)
  | some tk => ptS out tk
/-- What a rune makes that no word has. -/
def mkS (out : List Tk) (ln : Int) (rm : Bool) (r : Int) : Int × List Tk × Int × Bool :=
  if r = 32 ∨ r = 9 then (0, out, ln, rm)
  else if r = 35 then (0, out, ln, true)
  else if r = 58 then ((ptS out (3, ⟨#[]⟩, 0, ln)).1, (ptS out (3, ⟨#[]⟩, 0, ln)).2, ln, rm)
  else if r = 44 then ((ptS out (4, ⟨#[]⟩, 0, ln)).1, (ptS out (4, ⟨#[]⟩, 0, ln)).2, ln, rm)
  else if r = 10 then (if out.length = 800 then (7, out, ln, rm) else (0, out ++ [(5, ⟨#[]⟩, 0, ln)], ln + 1, false))
  else (2, out, ln, rm)
/-- What a rune makes. -/
def nextS (out : List Tk) (ln : Int) (pt : List Int) (rm : Bool) (r : Int) : Int × List Tk × Int × List Int × Bool :=
  if rm = true ∧ r ≠ 10 then (0, out, ln, pt, rm)
  else if isWd r = true then (0, out, ln, pt ++ [r], rm)
  else if (epS out ln pt).1 = 0 then ((mkS (epS out ln pt).2 ln rm r).1, (mkS (epS out ln pt).2 ln rm r).2.1, (mkS (epS out ln pt).2 ln rm r).2.2.1, [], (mkS (epS out ln pt).2 ln rm r).2.2.2)
  else ((epS out ln pt).1, (epS out ln pt).2, ln, [], rm)
/-- What the end makes. -/
def endS (out : List Tk) (ln : Int) (pt : List Int) : Int × List Tk := if (epS out ln pt).1 = 0 then ptS (epS out ln pt).2 (0, ⟨#[]⟩, 0, ln) else epS out ln pt
/-- What is left to read. -/
def lexC (out : List Tk) (ln : Int) (pt : List Int) (rm : Bool) (l : List Int) : LxR := lexS (pt ++ (if rm = true then l.dropWhile (fun x => decide (x ≠ 10)) else l)) ln out
def GoodR (out : List Tk) (pt : List Int) (rm : Bool) : Prop := out.length ≤ 800 ∧ (∀ c ∈ pt, isWd c = true) ∧ (rm = true → pt = [])
theorem ptS_len {out : List Tk} (h : out.length ≤ 800) (tk : Tk) : (ptS out tk).2.length ≤ 800 := by
  unfold ptS
  split
  · exact h
  · simp only [List.length_append, List.length_singleton]; omega
theorem push_is {out : List Tk} (h : out.length ≤ 800) (tk : Tk) (ln2 : Int) (k : Int → List Tk → LxR) : pushT out tk ln2 k = if (ptS out tk).1 = 0 then k ln2 (ptS out tk).2 else .error (tk.2.2.2, (ptS out tk).1) := by
  unfold ptS
  by_cases h8 : out.length = 800
  · rw [if_pos h8, push_big (by omega)]
    rfl
  · rw [if_neg h8, push_ok (by omega)]
    rfl
theorem epS_len {out : List Tk} (h : out.length ≤ 800) (ln : Int) (pt : List Int) : (epS out ln pt).2.length ≤ 800 := by
  unfold epS
  split
  · exact h
  · split
    · exact h
    · exact ptS_len h _
theorem epS_none {out : List Tk} {ln : Int} {pt : List Int} (hp : pt ≠ []) (h : tokW pt ln = none) : epS out ln pt = (2, out) := by
  unfold epS
  rw [if_neg hp, h]
theorem epS_some {out : List Tk} {ln : Int} {pt : List Int} (hp : pt ≠ []) {tk : Tk} (h : tokW pt ln = some tk) : epS out ln pt = ptS out tk := by
  unfold epS
  rw [if_neg hp, h]
theorem ep_is {out : List Tk} (h : out.length ≤ 800) (ln : Int) {pt : List Int} (hp : ∀ c ∈ pt, isWd c = true) {m : List Int} (hm : m = [] ∨ ∃ c t, m = c :: t ∧ isWd c = false) : lexS (pt ++ m) ln out = if (epS out ln pt).1 = 0 then lexS m ln (epS out ln pt).2 else .error (ln, (epS out ln pt).1) := by
  match pt, hp with
  | [], hp => rfl
  | c :: t, hp =>
    have hc := hp c (List.mem_cons_self ..)
    have ht := takeW_all (l := t) (fun x hx => hp x (List.mem_cons_of_mem _ hx)) hm
    rw [List.cons_append]
    cases hk : tokW (c :: t) ln with
    | none =>
      rw [lexS_none hc _ ln out (by rw [ht.1]; exact hk), epS_none (by simp) hk]
      rfl
    | some tk =>
      rw [lexS_word hc _ ln out (by rw [ht.1]; exact hk), ht.2, push_is h, tokW_line hk, epS_some (by simp) hk]
theorem mkS_blank {out : List Tk} {ln : Int} {rm : Bool} {r : Int} (h : r = 32 ∨ r = 9) : mkS out ln rm r = (0, out, ln, rm) := by unfold mkS; rw [if_pos h]
theorem mkS_hash {out : List Tk} {ln : Int} {rm : Bool} : mkS out ln rm 35 = (0, out, ln, true) := by unfold mkS; rw [if_neg (by decide), if_pos rfl]
theorem mkS_colon {out : List Tk} {ln : Int} {rm : Bool} : mkS out ln rm 58 = ((ptS out (3, ⟨#[]⟩, 0, ln)).1, (ptS out (3, ⟨#[]⟩, 0, ln)).2, ln, rm) := by unfold mkS; rw [if_neg (by decide), if_neg (by decide), if_pos rfl]
theorem mkS_comma {out : List Tk} {ln : Int} {rm : Bool} : mkS out ln rm 44 = ((ptS out (4, ⟨#[]⟩, 0, ln)).1, (ptS out (4, ⟨#[]⟩, 0, ln)).2, ln, rm) := by unfold mkS; rw [if_neg (by decide), if_neg (by decide), if_neg (by decide), if_pos rfl]
theorem mkS_line {out : List Tk} {ln : Int} {rm : Bool} : mkS out ln rm 10 = (if out.length = 800 then (7, out, ln, rm) else (0, out ++ [(5, ⟨#[]⟩, 0, ln)], ln + 1, false)) := by unfold mkS; rw [if_neg (by decide), if_neg (by decide), if_neg (by decide), if_neg (by decide), if_pos rfl]
theorem mkS_bad {out : List Tk} {ln : Int} {rm : Bool} {r : Int} (h1 : ¬ (r = 32 ∨ r = 9)) (h2 : r ≠ 35) (h3 : r ≠ 58) (h4 : r ≠ 44) (h5 : r ≠ 10) : mkS out ln rm r = (2, out, ln, rm) := by unfold mkS; rw [if_neg h1, if_neg h2, if_neg h3, if_neg h4, if_neg h5]
theorem mk_is {out : List Tk} (h : out.length ≤ 800) (ln : Int) (rm : Bool) {r : Int} (hr : rm = true → r = 10) (hw : isWd r = false) (m : List Int) : lexS (r :: m) ln out = (if (mkS out ln rm r).1 = 0 then lexC (mkS out ln rm r).2.1 (mkS out ln rm r).2.2.1 [] (mkS out ln rm r).2.2.2 m else .error ((mkS out ln rm r).2.2.1, (mkS out ln rm r).1)) ∧ (mkS out ln rm r).2.1.length ≤ 800 := by
  by_cases h5 : r = 10
  · subst h5
    rw [mkS_line, lexS_line]
    by_cases h8 : out.length = 800
    · rw [if_pos h8, push_big (by omega)]
      exact ⟨rfl, h⟩
    · rw [if_neg h8, push_ok (by omega)]
      refine ⟨rfl, ?_⟩
      simp only [List.length_append, List.length_singleton]
      omega
  · have hf : rm = false := by
      cases rm
      · rfl
      · exact absurd (hr rfl) h5
    subst hf
    by_cases h1 : r = 32 ∨ r = 9
    · rw [mkS_blank h1]
      exact ⟨lexS_blank h1 m ln out, h⟩
    · by_cases h2 : r = 35
      · subst h2
        rw [mkS_hash]
        exact ⟨lexS_hash m ln out, h⟩
      · by_cases h3 : r = 58
        · subst h3
          rw [mkS_colon, lexS_colon, push_is h]
          exact ⟨rfl, ptS_len h _⟩
        · by_cases h4 : r = 44
          · subst h4
            rw [mkS_comma, lexS_comma, push_is h]
            exact ⟨rfl, ptS_len h _⟩
          · rw [mkS_bad h1 h2 h3 h4 h5, lexS_bad h1 h2 h3 h4 h5 hw]
            exact ⟨rfl, h⟩
theorem wd10 : isWd 10 = false := by decide
theorem next_is {out : List Tk} {pt : List Int} {rm : Bool} (hg : GoodR out pt rm) (ln : Int) (r : Int) (m : List Int) {c : Int} {out' : List Tk} {ln' : Int} {pt' : List Int} {rm' : Bool} (hn : nextS out ln pt rm r = (c, out', ln', pt', rm')) : (c = 0 → lexC out ln pt rm (r :: m) = lexC out' ln' pt' rm' m ∧ GoodR out' pt' rm') ∧ (c ≠ 0 → lexC out ln pt rm (r :: m) = .error (ln', c)) := by
  obtain ⟨g1, g2, g3⟩ := hg
  unfold nextS at hn
  by_cases h1 : rm = true ∧ r ≠ 10
  · rw [if_pos h1] at hn
    cases hn
    refine ⟨fun _ => ⟨?_, g1, g2, g3⟩, fun h => absurd rfl h⟩
    unfold lexC
    rw [if_pos h1.1, if_pos h1.1, List.dropWhile_cons, if_pos (by simpa using h1.2)]
  · rw [if_neg h1] at hn
    by_cases hw : isWd r = true
    · have hf : rm = false := by
        cases rm
        · rfl
        · exact absurd ⟨rfl, fun e => by rw [e, wd10] at hw; cases hw⟩ h1
      subst hf
      rw [if_pos hw] at hn
      cases hn
      refine ⟨fun _ => ⟨?_, g1, fun x hx => ?_, fun h => by cases h⟩, fun h => absurd rfl h⟩
      · unfold lexC
        rw [if_neg (by decide), if_neg (by decide), List.append_assoc]
        rfl
      · rcases List.mem_append.1 hx with hx | hx
        · exact g2 x hx
        · rw [List.mem_singleton] at hx
          rw [hx]; exact hw
    · have hw0 : isWd r = false := by simpa using hw
      rw [if_neg hw] at hn
      have hl : lexC out ln pt rm (r :: m) = lexS (pt ++ r :: m) ln out := by
        unfold lexC
        cases rm
        · rfl
        · have e : r = 10 := by
            by_cases e : r = 10
            · exact e
            · exact absurd ⟨rfl, e⟩ h1
          rw [if_pos rfl, e]
          rfl
      have hr : rm = true → r = 10 := fun h => by
        by_cases e : r = 10
        · exact e
        · exact absurd ⟨h, e⟩ h1
      have he := ep_is g1 ln g2 (m := r :: m) (.inr ⟨r, m, rfl, hw0⟩)
      have hk := mk_is (epS_len g1 ln pt) ln rm hr hw0 m
      by_cases h0 : (epS out ln pt).1 = 0
      · rw [if_pos h0] at hn he
        cases hn
        rw [hl, he]
        refine ⟨fun hc => ⟨?_, hk.2, List.forall_mem_nil _, fun _ => rfl⟩, fun hc => ?_⟩
        · rw [hk.1, if_pos hc]
        · rw [hk.1, if_neg hc]
      · rw [if_neg h0] at hn he
        cases hn
        rw [hl, he]
        exact ⟨fun hc => absurd hc h0, fun _ => rfl⟩
theorem next_hi {out : List Tk} {pt : List Int} (hg : GoodR out pt false) (ln : Int) {r b : Int} (hr : 128 ≤ r) (hb : 128 ≤ b) (m : List Int) {c : Int} {out' : List Tk} {ln' : Int} {pt' : List Int} {rm' : Bool} (hn : nextS out ln pt false r = (c, out', ln', pt', rm')) : c ≠ 0 ∧ lexC out ln pt false (b :: m) = .error (ln', c) := by
  obtain ⟨g1, g2, g3⟩ := hg
  have wd : ∀ x : Int, 128 ≤ x → isWd x = false := fun x hx => by
    unfold isWd isLt isDg
    rw [decide_eq_false (by omega), decide_eq_false (by omega), decide_eq_false (by omega)]
    rfl
  have bad : mkS (epS out ln pt).2 ln false r = (2, (epS out ln pt).2, ln, false) := mkS_bad (by omega) (by omega) (by omega) (by omega) (by omega)
  unfold nextS at hn
  rw [if_neg (by simp), if_neg (by rw [wd r hr]; decide), bad] at hn
  have he := ep_is g1 ln g2 (m := b :: m) (.inr ⟨b, m, rfl, wd b hb⟩)
  have hl : lexC out ln pt false (b :: m) = lexS (pt ++ b :: m) ln out := rfl
  by_cases h0 : (epS out ln pt).1 = 0
  · rw [if_pos h0] at hn he
    cases hn
    refine ⟨show (2 : Int) ≠ 0 by decide, ?_⟩
    rw [hl, he]
    exact lexS_bad (by omega) (by omega) (by omega) (by omega) (by omega) (wd b hb) m ln _
  · rw [if_neg h0] at hn he
    cases hn
    exact ⟨h0, by rw [hl, he]⟩
theorem end_is {out : List Tk} {pt : List Int} {rm : Bool} (hg : GoodR out pt rm) (ln : Int) {c : Int} {out' : List Tk} (hn : endS out ln pt = (c, out')) : (c = 0 → finL (lexC out ln pt rm []) = (out', 0, 0)) ∧ (c ≠ 0 → finL (lexC out ln pt rm []) = ([], ln, c)) := by
  obtain ⟨g1, g2, g3⟩ := hg
  have hl : lexC out ln pt rm [] = lexS (pt ++ []) ln out := by
    unfold lexC
    cases rm <;> rfl
  have he := ep_is g1 ln g2 (m := []) (.inl rfl)
  have h8 := epS_len g1 ln pt
  unfold endS at hn
  rw [hl, he]
  by_cases h0 : (epS out ln pt).1 = 0
  · rw [if_pos h0] at hn ⊢
    rw [lexS_nil]
    unfold ptS at hn
    unfold finL
    generalize (epS out ln pt).2 = q at hn h8
    by_cases hq : q.length = 800
    · rw [if_pos hq] at hn
      cases hn
      refine ⟨fun h => absurd h (by decide), fun _ => ?_⟩
      show (if 800 < out'.length + 1 then _ else _) = _
      rw [if_pos (by omega)]
    · rw [if_neg hq] at hn
      cases hn
      refine ⟨fun _ => ?_, fun h => absurd rfl h⟩
      show (if 800 < q.length + 1 then _ else _) = _
      rw [if_neg (by omega)]
  · rw [if_neg h0] at hn ⊢
    rw [hn]
    exact ⟨fun h => absurd (by rw [hn]; exact h) h0, fun _ => rfl⟩
end Go.Proofs.YtadmibfnjhockaaDoor
