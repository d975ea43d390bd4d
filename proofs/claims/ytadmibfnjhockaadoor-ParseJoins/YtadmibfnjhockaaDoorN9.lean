/- A line of two names, or of what is none (layer 15), in plain mathematics: the theorem of one line. -/
import Derived.Test.YtadmibfnjhockaaDoorN5
import Derived.Test.YtadmibfnjhockaaDoorLD
namespace Go.Proofs.YtadmibfnjhockaaDoor
set_option linter.unusedVariables false
theorem lexS_sp {w : List Int} (hw : ∀ c ∈ w, isWd c = true) (ln : Int) {out : List Tk} (ho : out.length < 800) {tk : Tk} (ht : tokW w ln = some tk) (h0 : w ≠ []) (m : List Int) : lexS (w ++ 32 :: m) ln out = lexS m ln (out ++ [tk]) := by
  have e : ptS out tk = (0, out ++ [tk]) := by unfold ptS; rw [if_neg (by omega)]
  rw [ep_is (by omega) ln hw (.inr ⟨32, m, rfl, by decide⟩), epS_some h0 ht, e, if_pos rfl]
  exact lexS_blank (.inl rfl) m ln _
theorem lexS_sp0 {w : List Int} (hw : ∀ c ∈ w, isWd c = true) (ln : Int) {out : List Tk} (ho : out.length < 800) (ht : tokW w ln = none) (h0 : w ≠ []) {m : List Int} (hm : m = [] ∨ ∃ c t, m = c :: t ∧ isWd c = false) : lexS (w ++ m) ln out = .error (ln, 2) := by
  rw [ep_is (by omega) ln hw hm, epS_none h0 ht]
  rfl
theorem lexS_last {w : List Int} (hw : ∀ c ∈ w, isWd c = true) (ln : Int) {out : List Tk} (ho : out.length < 800) {tk : Tk} (ht : tokW w ln = some tk) (h0 : w ≠ []) : lexS w ln out = .ok (ln, out ++ [tk]) := by
  have q := ep_is (by omega : out.length ≤ 800) ln hw (m := []) (.inl rfl)
  rw [List.append_nil] at q
  have e : ptS out tk = (0, out ++ [tk]) := by unfold ptS; rw [if_neg (by omega)]
  rw [q, epS_some h0 ht, e, if_pos rfl]
  rfl
/-- The beginnings of the four lines, and their tokens. -/
def hdL : Nat → List Int
  | 0 => [114, 117, 108, 101, 32, 114, 101, 102, 32]
  | 1 => [114, 117, 108, 101, 32, 98, 111, 116, 104, 32]
  | 2 => [114, 117, 108, 101, 32, 115, 116, 114, 105, 99, 116, 32, 110, 101, 101, 100, 115, 32]
  | _ => [114, 117, 108, 101, 32, 115, 116, 114, 105, 99, 116, 32, 114, 101, 102, 32]
def hdT : Nat → List Tk
  | 0 => [(1, ⟨#[114, 117, 108, 101]⟩, 0, 1), (1, ⟨#[114, 101, 102]⟩, 0, 1)]
  | 1 => [(1, ⟨#[114, 117, 108, 101]⟩, 0, 1), (1, ⟨#[98, 111, 116, 104]⟩, 0, 1)]
  | 2 => [(1, ⟨#[114, 117, 108, 101]⟩, 0, 1), (1, ⟨#[115, 116, 114, 105, 99, 116]⟩, 0, 1), (1, ⟨#[110, 101, 101, 100, 115]⟩, 0, 1)]
  | _ => [(1, ⟨#[114, 117, 108, 101]⟩, 0, 1), (1, ⟨#[115, 116, 114, 105, 99, 116]⟩, 0, 1), (1, ⟨#[114, 101, 102]⟩, 0, 1)]
def hdK : Nat → Int
  | 0 => 4
  | 1 => 5
  | 2 => 9
  | _ => 4
def hdS (j : Nat) : Bool := decide (2 ≤ j)
theorem hd_lex : ∀ (j : Nat), j < 4 → ∀ m, lexS (hdL j ++ m) 1 [] = lexS m 1 (hdT j)
  | 0, _, m => by
    rw [show hdL 0 ++ m = [114, 117, 108, 101] ++ 32 :: ([114, 101, 102] ++ 32 :: m) from rfl, lexS_sp (by decide) 1 (by decide) (tk := (1, ⟨#[114, 117, 108, 101]⟩, 0, 1)) (by rfl) (by decide), lexS_sp (by decide) 1 (by decide) (tk := (1, ⟨#[114, 101, 102]⟩, 0, 1)) (by rfl) (by decide)]
    rfl
  | 1, _, m => by
    rw [show hdL 1 ++ m = [114, 117, 108, 101] ++ 32 :: ([98, 111, 116, 104] ++ 32 :: m) from rfl, lexS_sp (by decide) 1 (by decide) (tk := (1, ⟨#[114, 117, 108, 101]⟩, 0, 1)) (by rfl) (by decide), lexS_sp (by decide) 1 (by decide) (tk := (1, ⟨#[98, 111, 116, 104]⟩, 0, 1)) (by rfl) (by decide)]
    rfl
  | 2, _, m => by
    rw [show hdL 2 ++ m = [114, 117, 108, 101] ++ 32 :: ([115, 116, 114, 105, 99, 116] ++ 32 :: ([110, 101, 101, 100, 115] ++ 32 :: m)) from rfl, lexS_sp (by decide) 1 (by decide) (tk := (1, ⟨#[114, 117, 108, 101]⟩, 0, 1)) (by rfl) (by decide), lexS_sp (by decide) 1 (by decide) (tk := (1, ⟨#[115, 116, 114, 105, 99, 116]⟩, 0, 1)) (by rfl) (by decide), lexS_sp (by decide) 1 (by decide) (tk := (1, ⟨#[110, 101, 101, 100, 115]⟩, 0, 1)) (by rfl) (by decide)]
    rfl
  | 3, _, m => by
    rw [show hdL 3 ++ m = [114, 117, 108, 101] ++ 32 :: ([115, 116, 114, 105, 99, 116] ++ 32 :: ([114, 101, 102] ++ 32 :: m)) from rfl, lexS_sp (by decide) 1 (by decide) (tk := (1, ⟨#[114, 117, 108, 101]⟩, 0, 1)) (by rfl) (by decide), lexS_sp (by decide) 1 (by decide) (tk := (1, ⟨#[115, 116, 114, 105, 99, 116]⟩, 0, 1)) (by rfl) (by decide), lexS_sp (by decide) 1 (by decide) (tk := (1, ⟨#[114, 101, 102]⟩, 0, 1)) (by rfl) (by decide)]
    rfl
  | j + 4, h, m => by omega
/-- Is a token a name? -/
def namT (t : Tk) : Bool := decide (t.1 = 1) && !keptB t.2.1
theorem tok_name {a : ByteArray} {ln : Int} {t : Tk} (h : tokW (bytesL a) ln = some t) : namT t = nameB a ∧ (t.1 = 1 ∨ t.1 = 2) ∧ (nameB a = true → t = (1, a, 0, ln)) := by
  have hs : strOfNums (bytesL a) = a := by
    obtain ⟨⟨l⟩⟩ := a
    apply ByteArray.ext
    apply Array.ext'
    rw [strOfNums_data]
    unfold bytesL
    rw [List.map_map]
    refine (List.map_congr_left (fun b _ => ?_)).trans (List.map_id _)
    show UInt8.ofNat ((b.toNat : Int).toNat) = b
    simp
  unfold tokW at h
  unfold nameB
  by_cases hw : wordB (bytesL a) = true
  · rw [if_pos hw, hs] at h
    cases h
    rw [hw]
    exact ⟨rfl, .inl rfl, fun _ => rfl⟩
  · rw [if_neg hw] at h
    split at h
    · cases h
      rw [show wordB (bytesL a) = false by simpa using hw]
      exact ⟨rfl, .inr rfl, fun h => by cases h⟩
    · cases h
/-- The tokens of a line: what it begins with, two more, the end. -/
def lnT (j : Nat) (ta tb : Tk) : List Tk := hdT j ++ [ta] ++ [tb] ++ [(0, ⟨#[]⟩, 0, 1)]
theorem hd_len : ∀ j : Nat, (hdT j).length ≤ 3 ∧ (hdL j).length ≤ 18
  | 0 => by decide
  | 1 => by decide
  | 2 => by decide
  | _ + 3 => ⟨show 3 ≤ 3 by decide, show 16 ≤ 18 by decide⟩
/-- What is read of the line. -/
theorem line_lex {j : Nat} (hj : j < 4) {A B : List Int} (ha : (∀ c ∈ A, isWd c = true) ∧ A ≠ []) (hb : (∀ c ∈ B, isWd c = true) ∧ B ≠ []) (h1 : A.length ≤ 100) (h2 : B.length ≤ 100) : lexB (hdL j ++ A ++ 32 :: B) = match tokW A 1, tokW B 1 with
  | some ta, some tb => (lnT j ta tb, 0, 0)
  | _, _ => ([], 1, 2) := by
  have hl := hd_len j
  have e : lexB (hdL j ++ A ++ 32 :: B) = finL (lexS (hdL j ++ (A ++ 32 :: B)) 1 []) := by
    unfold lexB
    rw [if_neg (by simp only [List.length_append, List.length_cons]; omega), List.append_assoc]
    rfl
  rw [e, hd_lex j hj]
  cases hta : tokW A 1 with
  | none =>
    rw [lexS_sp0 ha.1 1 (by omega) hta ha.2 (.inr ⟨32, B, rfl, by decide⟩)]
    rfl
  | some ta =>
    rw [lexS_sp ha.1 1 (by omega) hta ha.2]
    cases htb : tokW B 1 with
    | none =>
      have q := lexS_sp0 hb.1 1 (out := hdT j ++ [ta]) (by simp; omega) htb hb.2 (m := []) (.inl rfl)
      rw [List.append_nil] at q
      rw [q]
      rfl
    | some tb =>
      rw [lexS_last hb.1 1 (by simp; omega) htb hb.2]
      show (if 800 < _ then _ else _) = _
      rw [if_neg (by simp; omega)]
      rfl
/-- How far a line of two names fits. -/
def frmT (ta tb : Tk) : Nat := if namT ta = true then (if namT tb = true then 2 else 1) else 0
theorem line_dcl {ta tb : Tk} : ∀ (j : Nat), j < 4 → dclU (hdT j ++ [ta] ++ [tb]) = if frmT ta tb < 2 then ((0, hdS j, ⟨#[]⟩, ⟨#[]⟩, 0, [], 0), (hdT j).length + frmT ta tb, false) else ((hdK j, hdS j, (if ta.1 = 1 then ta.2.1 else ⟨#[]⟩), (if tb.1 = 1 then tb.2.1 else ⟨#[]⟩), tb.2.2.1, [], 0), (hdT j).length + 2, true)
  | 0, _ => by
    have e1 : namU (hdT 0 ++ [ta] ++ [tb]) 2 = namT ta := rfl
    have e2 : namU (hdT 0 ++ [ta] ++ [tb]) 3 = namT tb := rfl
    have e3 : txtU (hdT 0 ++ [ta] ++ [tb]) 2 = if ta.1 = 1 then ta.2.1 else ⟨#[]⟩ := rfl
    have e4 : txtU (hdT 0 ++ [ta] ++ [tb]) 3 = if tb.1 = 1 then tb.2.1 else ⟨#[]⟩ := rfl
    have e5 : numU (hdT 0 ++ [ta] ++ [tb]) 3 = tb.2.2.1 := rfl
    have e6 : txtU (hdT 0 ++ [ta] ++ [tb]) 1 = ⟨#[114, 101, 102]⟩ := rfl
    have e7 : ruleU ⟨#[114, 101, 102]⟩ = (4, [110, 110]) := by rfl
    have ef : frmU (hdT 0 ++ [ta] ++ [tb]) 2 [110, 110] = if namT ta = true then (if namT tb = true then 2 else 1) else 0 := by
      rw [frmU, if_pos rfl, e1, frmU, if_pos rfl, show namU (hdT 0 ++ [ta] ++ [tb]) (2 + 1) = namT tb from rfl]
      rcases namT ta with _ | _ <;> rcases namT tb with _ | _ <;> rfl
    rw [dcl_rl (l := (hdT 0 ++ [ta] ++ [tb])) (by rfl) false (by rfl)]
    show rlR (hdT 0 ++ [ta] ++ [tb]) false 1 = _
    unfold rlR
    rw [e6, e7]
    simp only
    rw [if_neg (by decide), ef, e3, e4, e5]
    unfold frmT
    rcases namT ta with _ | _ <;> rcases namT tb with _ | _ <;> rfl
  | 1, _ => by
    have e1 : namU (hdT 1 ++ [ta] ++ [tb]) 2 = namT ta := rfl
    have e2 : namU (hdT 1 ++ [ta] ++ [tb]) 3 = namT tb := rfl
    have e3 : txtU (hdT 1 ++ [ta] ++ [tb]) 2 = if ta.1 = 1 then ta.2.1 else ⟨#[]⟩ := rfl
    have e4 : txtU (hdT 1 ++ [ta] ++ [tb]) 3 = if tb.1 = 1 then tb.2.1 else ⟨#[]⟩ := rfl
    have e5 : numU (hdT 1 ++ [ta] ++ [tb]) 3 = tb.2.2.1 := rfl
    have e6 : txtU (hdT 1 ++ [ta] ++ [tb]) 1 = ⟨#[98, 111, 116, 104]⟩ := rfl
    have e7 : ruleU ⟨#[98, 111, 116, 104]⟩ = (5, [110, 110]) := by rfl
    have ef : frmU (hdT 1 ++ [ta] ++ [tb]) 2 [110, 110] = if namT ta = true then (if namT tb = true then 2 else 1) else 0 := by
      rw [frmU, if_pos rfl, e1, frmU, if_pos rfl, show namU (hdT 1 ++ [ta] ++ [tb]) (2 + 1) = namT tb from rfl]
      rcases namT ta with _ | _ <;> rcases namT tb with _ | _ <;> rfl
    rw [dcl_rl (l := (hdT 1 ++ [ta] ++ [tb])) (by rfl) false (by rfl)]
    show rlR (hdT 1 ++ [ta] ++ [tb]) false 1 = _
    unfold rlR
    rw [e6, e7]
    simp only
    rw [if_neg (by decide), ef, e3, e4, e5]
    unfold frmT
    rcases namT ta with _ | _ <;> rcases namT tb with _ | _ <;> rfl
  | 2, _ => by
    have e1 : namU (hdT 2 ++ [ta] ++ [tb]) 3 = namT ta := rfl
    have e2 : namU (hdT 2 ++ [ta] ++ [tb]) 4 = namT tb := rfl
    have e3 : txtU (hdT 2 ++ [ta] ++ [tb]) 3 = if ta.1 = 1 then ta.2.1 else ⟨#[]⟩ := rfl
    have e4 : txtU (hdT 2 ++ [ta] ++ [tb]) 4 = if tb.1 = 1 then tb.2.1 else ⟨#[]⟩ := rfl
    have e5 : numU (hdT 2 ++ [ta] ++ [tb]) 4 = tb.2.2.1 := rfl
    have e6 : txtU (hdT 2 ++ [ta] ++ [tb]) 2 = ⟨#[110, 101, 101, 100, 115]⟩ := rfl
    have e7 : ruleU ⟨#[110, 101, 101, 100, 115]⟩ = (9, [110, 110]) := by rfl
    have ef : frmU (hdT 2 ++ [ta] ++ [tb]) 3 [110, 110] = if namT ta = true then (if namT tb = true then 2 else 1) else 0 := by
      rw [frmU, if_pos rfl, e1, frmU, if_pos rfl, show namU (hdT 2 ++ [ta] ++ [tb]) (3 + 1) = namT tb from rfl]
      rcases namT ta with _ | _ <;> rcases namT tb with _ | _ <;> rfl
    rw [dcl_rl (l := (hdT 2 ++ [ta] ++ [tb])) (by rfl) true (by rfl)]
    show rlR (hdT 2 ++ [ta] ++ [tb]) true 2 = _
    unfold rlR
    rw [e6, e7]
    simp only
    rw [if_neg (by decide), ef, e3, e4, e5]
    unfold frmT
    rcases namT ta with _ | _ <;> rcases namT tb with _ | _ <;> rfl
  | 3, _ => by
    have e1 : namU (hdT 3 ++ [ta] ++ [tb]) 3 = namT ta := rfl
    have e2 : namU (hdT 3 ++ [ta] ++ [tb]) 4 = namT tb := rfl
    have e3 : txtU (hdT 3 ++ [ta] ++ [tb]) 3 = if ta.1 = 1 then ta.2.1 else ⟨#[]⟩ := rfl
    have e4 : txtU (hdT 3 ++ [ta] ++ [tb]) 4 = if tb.1 = 1 then tb.2.1 else ⟨#[]⟩ := rfl
    have e5 : numU (hdT 3 ++ [ta] ++ [tb]) 4 = tb.2.2.1 := rfl
    have e6 : txtU (hdT 3 ++ [ta] ++ [tb]) 2 = ⟨#[114, 101, 102]⟩ := rfl
    have e7 : ruleU ⟨#[114, 101, 102]⟩ = (4, [110, 110]) := by rfl
    have ef : frmU (hdT 3 ++ [ta] ++ [tb]) 3 [110, 110] = if namT ta = true then (if namT tb = true then 2 else 1) else 0 := by
      rw [frmU, if_pos rfl, e1, frmU, if_pos rfl, show namU (hdT 3 ++ [ta] ++ [tb]) (3 + 1) = namT tb from rfl]
      rcases namT ta with _ | _ <;> rcases namT tb with _ | _ <;> rfl
    rw [dcl_rl (l := (hdT 3 ++ [ta] ++ [tb])) (by rfl) true (by rfl)]
    show rlR (hdT 3 ++ [ta] ++ [tb]) true 2 = _
    unfold rlR
    rw [e6, e7]
    simp only
    rw [if_neg (by decide), ef, e3, e4, e5]
    unfold frmT
    rcases namT ta with _ | _ <;> rcases namT tb with _ | _ <;> rfl
  | j + 4, h => by omega
theorem line_take {ta tb : Tk} (ha : ta.1 = 1 ∨ ta.1 = 2) (hb : tb.1 = 1 ∨ tb.1 = 2) : ∀ (j : Nat), (lnT j ta tb).takeWhile inU = hdT j ++ [ta] ++ [tb] := by
  have ia : inU ta = true := by unfold inU; rw [decide_eq_true_iff]; omega
  have ib : inU tb = true := by unfold inU; rw [decide_eq_true_iff]; omega
  have q : ∀ (l : List Tk), (∀ t ∈ l, inU t = true) → (l ++ [((0, ⟨#[]⟩, 0, 1) : Tk)]).takeWhile inU = l := by
    intro l hl
    induction l with
    | nil => rfl
    | cons t r ih =>
      rw [List.cons_append, List.takeWhile_cons, if_pos (hl t (List.mem_cons_self ..)), ih (fun x hx => hl x (List.mem_cons_of_mem _ hx))]
  have hh : ∀ j, ∀ t ∈ hdT j, inU t = true := fun j => by
    match j with
    | 0 => decide
    | 1 => decide
    | 2 => decide
    | k + 3 => exact (show ∀ t ∈ hdT 3, inU t = true by decide)
  intro j
  refine q (hdT j ++ [ta] ++ [tb]) (fun t ht => ?_)
  rcases List.mem_append.1 ht with ht | ht
  · rcases List.mem_append.1 ht with ht | ht
    · exact hh j t ht
    · rw [List.mem_singleton.1 ht]; exact ia
  · rw [List.mem_singleton.1 ht]; exact ib
theorem hd_head : ∀ j : Nat, ∃ r, hdT j = (1, ⟨#[114, 117, 108, 101]⟩, 0, 1) :: r
  | 0 => ⟨_, rfl⟩
  | 1 => ⟨_, rfl⟩
  | 2 => ⟨_, rfl⟩
  | _ + 3 => ⟨_, rfl⟩
/-- The lines of such a line. -/
theorem line_lin {ta tb : Tk} (ha : ta.1 = 1 ∨ ta.1 = 2) (hb : tb.1 = 1 ∨ tb.1 = 2) {j : Nat} (hj : j < 4) : (2 ≤ frmT ta tb → linS (lnT j ta tb) [] = .ok [(hdK j, hdS j, (if ta.1 = 1 then ta.2.1 else ⟨#[]⟩), (if tb.1 = 1 then tb.2.1 else ⟨#[]⟩), tb.2.2.1, [], 1)]) ∧ (frmT ta tb < 2 → ∃ x, linS (lnT j ta tb) [] = .error (x, 2)) := by
  obtain ⟨r, hr⟩ := hd_head j
  have hd := line_dcl (ta := ta) (tb := tb) j hj
  have ht := line_take ha hb j
  have hc : lnT j ta tb = (1, ⟨#[114, 117, 108, 101]⟩, 0, 1) :: (r ++ [ta] ++ [tb] ++ [(0, ⟨#[]⟩, 0, 1)]) := by
    unfold lnT
    rw [hr]
    rfl
  have hl : (hdT j ++ [ta] ++ [tb]).length = (hdT j).length + 2 := by simp
  refine ⟨fun h2 => ?_, fun h2 => ?_⟩
  · rw [if_neg (by omega)] at hd
    rw [hc, linS_good (t := (1, ⟨#[114, 117, 108, 101]⟩, 0, 1)) (show (1 : Int) ≠ 0 by decide) (show (1 : Int) ≠ 5 by decide) _ (show ([] : List Dc).length ≠ 60 by decide) (by rw [← hc, ht]; exact hd) (by rw [← hc, ht, hl]), ← hc]
    have e : (lnT j ta tb).drop ((hdT j).length + 2) = [(0, ⟨#[]⟩, 0, 1)] := by
      unfold lnT
      rw [← hl, List.drop_left]
    rw [e]
    exact linS_end rfl [] _
  · rw [if_pos h2] at hd
    have hlt : (hdT j).length + frmT ta tb < (lnT j ta tb).length := by
      unfold lnT
      simp
      omega
    obtain ⟨u, hu⟩ : ∃ u, (lnT j ta tb)[(hdT j).length + frmT ta tb]? = some u := ⟨_, List.getElem?_eq_getElem hlt⟩
    refine ⟨u.2.2.2, ?_⟩
    rw [hc] at hu ⊢
    exact linS_bad (t := (1, ⟨#[114, 117, 108, 101]⟩, 0, 1)) (show (1 : Int) ≠ 0 by decide) (show (1 : Int) ≠ 5 by decide) _ (show ([] : List Dc).length ≠ 60 by decide) (by rw [← hc, ht]; exact hd) (.inl rfl) hu
/-- THE theorem of one line: it is told just if they are names. -/
theorem one15 {a b : ByteArray} {j : Nat} (hj : j < 4) (ha : (∀ c ∈ bytesL a, isWd c = true) ∧ bytesL a ≠ []) (hb : (∀ c ∈ bytesL b, isWd c = true) ∧ bytesL b ≠ []) (h1 : a.size ≤ 100) (h2 : b.size ≤ 100) : (nameB a = true → nameB b = true → linB (hdL j ++ bytesL a ++ 32 :: bytesL b) = ([(hdK j, hdS j, a, b, 0, [], 1)], 0, 0)) ∧ (nameB a = false ∨ nameB b = false → ∃ x, linB (hdL j ++ bytesL a ++ 32 :: bytesL b) = ([], x, 2)) := by
  have q := line_lex hj ha hb (by rw [bytesL_sz]; exact h1) (by rw [bytesL_sz]; exact h2)
  cases hta : tokW (bytesL a) 1 with
  | none =>
    rw [hta] at q
    have e : linB (hdL j ++ bytesL a ++ 32 :: bytesL b) = ([], 1, 2) := by unfold linB; rw [q]; rfl
    refine ⟨fun na _ => ?_, fun _ => ⟨1, e⟩⟩
    exfalso
    unfold nameB at na
    rw [Bool.and_eq_true] at na
    unfold tokW at hta
    rw [if_pos na.1] at hta
    cases hta
  | some ta =>
    have ka := tok_name hta
    cases htb : tokW (bytesL b) 1 with
    | none =>
      rw [hta, htb] at q
      have e : linB (hdL j ++ bytesL a ++ 32 :: bytesL b) = ([], 1, 2) := by unfold linB; rw [q]; rfl
      refine ⟨fun _ nb => ?_, fun _ => ⟨1, e⟩⟩
      exfalso
      unfold nameB at nb
      rw [Bool.and_eq_true] at nb
      unfold tokW at htb
      rw [if_pos nb.1] at htb
      cases htb
    | some tb =>
      have kb := tok_name htb
      rw [hta, htb] at q
      have z := line_lin ka.2.1 kb.2.1 hj
      have e : ∀ r, linS (lnT j ta tb) [] = r → linB (hdL j ++ bytesL a ++ 32 :: bytesL b) = match r with
          | .error (x, e) => ([], x, e)
          | .ok out => (out, 0, 0) := by
        rintro r rfl
        unfold linB
        rw [q]
        rfl
      refine ⟨fun na nb => ?_, fun hn => ?_⟩
      · have r := e _ (z.1 (by unfold frmT; rw [ka.1, kb.1, na, nb]; decide))
        rw [r, ka.2.2 na, kb.2.2 nb]
        rfl
      · obtain ⟨x, hx⟩ := z.2 (by
          unfold frmT
          rw [ka.1, kb.1]
          rcases hn with hn | hn
          · rw [hn, if_neg (by decide)]; decide
          · rw [hn]
            split <;> decide)
        exact ⟨x, e _ hx⟩
end Go.Proofs.YtadmibfnjhockaaDoor
