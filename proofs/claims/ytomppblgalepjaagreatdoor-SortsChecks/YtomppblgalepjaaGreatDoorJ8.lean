/- Texts of this claim, joined: G0, L8, N1, N3, N4, N5, NRa. -/
import Derived.Test.YtomppblgalepjaaGreatDoorJ2
import Derived.Test.YtomppblgalepjaaGreatDoorJ4
import Derived.Test.YtomppblgalepjaaGreatDoorJ5
import Derived.Test.YtomppblgalepjaaGreatDoorJ6
/- Rows with keys in order: a key's row, a row put, taken out; where a key stands: in plain mathematics, of any rows. -/
namespace Go.Proofs.YtomppblgalepjaaGreatDoor
set_option linter.unusedVariables false
section
variable {α : Type} (key : α → ByteArray)
variable {key}
theorem takeG_snoc {l : List α} {k : Nat} {x : α} (h : l[k]? = some x) : l.take (k + 1) = l.take k ++ [x] := by
 obtain ⟨hk, rfl⟩ := List.getElem?_eq_some_iff.1 h
 rw [List.take_succ_eq_append_getElem hk]
end
end Go.Proofs.YtomppblgalepjaaGreatDoor

/- The document's Same, and its Read of any text (layer 14). -/
namespace Go.Proofs.YtomppblgalepjaaGreatDoor
open Go.RowKit Go.Lib
set_option linter.unusedVariables false
theorem KS.below {w w' : World} {a : Option Addr} {n : Nat} {s : List Tk} (h : KS w a n s) (hb : Below w.heap.size w w') : KS w' a n s := RS.below h hb
def RdP (s : ByteArray) (w : World) (e : Ending) (w' : World) : Prop := ∃ p c ts x e0, e = .returned (.tuple #[.slice p ts.length c, .int .i64 x, .int .i64 e0]) ∧ lexB (bytesL s) = (ts, x, e0) ∧ KS w' p ts.length ts ∧ CP p ts.length c ∧ Below w.heap.size w w'
end Go.Proofs.YtomppblgalepjaaGreatDoor

/- The words that are kept, and what is asked of tokens: the document's functions (layer 15). -/
namespace Go.Proofs.YtomppblgalepjaaGreatDoor
open Go.RowKit Go.Lib
set_option linter.unusedVariables false
def encSt (s : ByteArray) : List Value := [.string s]
theorem encSt_len (s : ByteArray) : (encSt s).length = 1 := rfl
theorem words15 (w : World) : Calls Tryz.prog 59 #[] w fun e w' => (∃ g c, e = .returned (.slice (some ⟨g, 0, none⟩) 17 c) ∧ RS encSt 1 w' (some ⟨g, 0, none⟩) 17 keptL) ∧ Below w.heap.size w w' := by
 have hb := bel1 w (.cells #[.string ⟨#[115, 101, 116]⟩, .string ⟨#[99, 111, 117, 110, 116]⟩, .string ⟨#[110, 111, 116, 101]⟩, .string ⟨#[114, 117, 108, 101]⟩, .string ⟨#[111, 112]⟩, .string ⟨#[115, 116, 114, 105, 99, 116]⟩, .string ⟨#[114, 101, 102]⟩, .string ⟨#[98, 111, 116, 104]⟩, .string ⟨#[108, 105, 109, 105, 116]⟩, .string ⟨#[109, 111, 115, 116]⟩, .string ⟨#[108, 101, 97, 115, 116]⟩, .string ⟨#[110, 101, 101, 100, 115]⟩, .string ⟨#[97, 100, 100]⟩, .string ⟨#[100, 114, 111, 112]⟩, .string ⟨#[117, 112]⟩, .string ⟨#[100, 111, 119, 110]⟩, .string ⟨#[112, 117, 116]⟩] 9)
 have hr : RS encSt 1 (w.alloc (.cells #[.string ⟨#[115, 101, 116]⟩, .string ⟨#[99, 111, 117, 110, 116]⟩, .string ⟨#[110, 111, 116, 101]⟩, .string ⟨#[114, 117, 108, 101]⟩, .string ⟨#[111, 112]⟩, .string ⟨#[115, 116, 114, 105, 99, 116]⟩, .string ⟨#[114, 101, 102]⟩, .string ⟨#[98, 111, 116, 104]⟩, .string ⟨#[108, 105, 109, 105, 116]⟩, .string ⟨#[109, 111, 115, 116]⟩, .string ⟨#[108, 101, 97, 115, 116]⟩, .string ⟨#[110, 101, 101, 100, 115]⟩, .string ⟨#[97, 100, 100]⟩, .string ⟨#[100, 114, 111, 112]⟩, .string ⟨#[117, 112]⟩, .string ⟨#[100, 111, 119, 110]⟩, .string ⟨#[112, 117, 116]⟩] 9)) (some ⟨w.heap.size, 0, none⟩) 17 keptL := RS.new encSt_len w _ rfl keptL _ rfl 9 (0, 0) 17 rfl (by decide)
 go_enter Tryz.func59, Tryz.ntmps59
 go_wp2
 go_ret
 exact ⟨⟨_, _, rfl, hr⟩, hb⟩
theorem kept_step {s : ByteArray} {i : Nat} {x : ByteArray} (hx : keptL[i]? = some x) (h : (keptL.take i).any (fun x => decide (x = s)) = false) : (x = s → keptB s = true) ∧ (x ≠ s → (keptL.take (i + 1)).any (fun x => decide (x = s)) = false) := by
 refine ⟨fun e => ?_, fun e => ?_⟩
 ·unfold keptB
  rw [List.any_eq_true]
  exact ⟨x, List.mem_of_getElem? hx, by simpa using e⟩
 ·rw [List.take_add_one, List.any_append, h, hx]
  simp [e]
set_option maxHeartbeats 2000000 in
theorem Kept15 (s : ByteArray) (w : World) : Calls Tryz.prog 41 #[.string s] w fun e w' => e = .returned (.bool (keptB s)) ∧ Below w.heap.size w w' := by
 have HW := hide (fun W => words15 W)
 go_enter Tryz.func41, Tryz.ntmps41
 go_upto_region 2 with (go_at_call 59; refine (HW.out _).mono ?_; rintro e w1 ⟨⟨g, c, rfl, hr⟩, hb⟩; have HR := hide hr; have HB := hide hb; clear hr hb)
 go_wp2
 go_loopw [4] (fun v wr => ∃ i : Nat, i ≤ 17 ∧ v = .int .i64 i ∧ Hid ((keptL.take i).any (fun x => decide (x = s)) = false) ∧ wr = w1) (fun v _ => 17 - (intOf v).toNat)
 case atStart => exact ⟨0, by omega, rfl, rfl, rfl⟩
 case round =>
  obtain ⟨i, hi, rfl, HF, hww⟩ := hrel
  have hww2 := hww.symm
  subst hww2
  clear hww
  by_cases hlt : i < 17
  ·have hi0 : (0 : Int) ≤ (i : Int) := by omega
   have hi1 : (i : Int) < 17 := by omega
   have hx : keptL[i]? = some keptL[i] := List.getElem?_eq_getElem (show i < keptL.length from hlt)
   have hs := kept_step (s := s) hx HF.out
   have c0 := (HR.out).cells i (.string keptL[i]) (by rw [show keptL.flatMap encSt = keptL.map (fun x => Value.string x) from rfl, List.getElem?_map, hx]; rfl) encSt_len (by decide)
   rw [Nat.zero_add] at c0
   generalize keptL[i] = x at c0 hs hx
   have hq := eqK x s
   clear hx
   by_cases he : x = s
   ·have HK := hide (hs.1 he)
    subst he
    rw [decide_eq_true rfl] at hq
    clear hs
    go_wp2
    go_ret
    exact ⟨by rw [HK.out]; rfl, HB.out⟩
   ·have HK := hide (hs.2 he)
    rw [decide_eq_false he] at hq
    clear hs he
    go_wp2
    go_roundw
    case rel => exact ⟨i + 1, by omega, by go_num, HK, by trivial⟩
    case measure => simp [intOf]; omega
  ·obtain rfl : i = 17 := by omega
   have HK : Hid (keptB s = false) := HF.out
   go_wp2
   go_ret
   exact ⟨by rw [HK.out]; rfl, HB.out⟩
theorem Name15 (s : ByteArray) (w : World) (hs : s.size ≤ 10000) : Calls Tryz.prog 19 #[.string s] w fun e w' => e = .returned (.bool (nameB s)) ∧ Below w.heap.size w w' := by
 have HD := hide (fun W => Word14 s W hs)
 have HK := hide (fun W => Kept15 s W)
 have HB : Hid (Below w.heap.size w w) := Below.refl _ _
 have HN : Hid (nameB s = (wordB (bytesL s) && !keptB s)) := rfl
 generalize wordB (bytesL s) = wb at HD HN
 generalize keptB s = kb at HK HN
 rw [HN.out]
 clear HN
 cases wb
 all_goals (go_enter Tryz.func19, Tryz.ntmps19; go_wp2_with (first | (go_at_call 40; refine (HD.out _).mono ?_; rintro e w1 ⟨rfl, hw9⟩; have hw8 := hw9.symm; subst hw8; clear hw9) | (go_at_call 41; refine (HK.out _).mono ?_; rintro e w2 ⟨rfl, hb⟩; replace HB := hide (bel_next HB.out hb); clear hb)); go_ret; exact ⟨by first | rfl | simp, HB.out⟩)
end Go.Proofs.YtomppblgalepjaaGreatDoor

/- Lines of a rule set in memory; an operation's line by the document (layer 15). -/
namespace Go.Proofs.YtomppblgalepjaaGreatDoor
open Go.RowKit Go.Lib
set_option linter.unusedVariables false
def encDd (d : Dd) : List Value := [.int .i64 d.1, .string d.2.1, .int .i64 d.2.2]
theorem encDd_len (d : Dd) : (encDd d).length = 3 := rfl
theorem encDd_one (d : Dd) : ∀ v ∈ encDd d, v.oneCell' = true := fun v hv => by
 simp only [encDd, List.mem_cons, List.not_mem_nil, or_false] at hv
 rcases hv with rfl | rfl | rfl <;> rfl
theorem Tryz.infoDd : (Tryz.prog.info? 40).map (fun i => (i.zero, i.size, i.bytes)) = some (some (.agg #[.int .i64 0, .string ⟨#[]⟩, .int .i64 0]), 3, 32) := by kernel_rfl
theorem Tryz.sizeDc : (Tryz.prog.info? 38).map (·.size) = some 7 := by kernel_rfl
abbrev OwnDd (N : Nat) (w : World) (v : Value) (l : List Dd) : Prop := OwnR encDd 3 40 N w v l
theorem tyDE : (40 : TypeId) ≠ 38 := by decide
def decV (d : Dc) (p : Option Addr) (n c : Nat) : Array Value := #[.int .i64 d.1, .bool d.2.1, .string d.2.2.1, .string d.2.2.2.1, .int .i64 d.2.2.2.2.1, .slice p n c, .int .i64 d.2.2.2.2.2.2]
def RDc : Rf Dc := fun w r d F => ∃ p n c, r = (decV d p n c).toList ∧ RS encDd 3 w p n d.2.2.2.2.2.1 ∧ CP p n c ∧ FlF w p n F
theorem RDc.st : StF RDc := by
 refine ⟨?_, ?_⟩
 ·rintro w w' r d F ⟨p, n, c, h1, h2, h3, h4, h5⟩ hk
  refine ⟨p, n, c, h1, h2.keep (fun h0 b hb => hk _ (h5 h0 b hb)), h3, fun g hg => ?_, h5⟩
  have q := h4 g hg
  have e := hk g hg
  rw [Array.getElem?_eq_getElem q] at e
  exact (Array.getElem?_eq_some_iff.1 e).1
 ·rintro w r d F ⟨p, n, c, h1, h2, h3, h4, h5⟩
  exact h4
theorem results_ctt {P : Program} {fn : Func} {p q u : Tmp} {ty : TypeId} (h : fn.results = #[.cell p ty, .tmp q, .tmp u]) (tmps : Array Value) (w : World) (g : Nat) (t : TypeId) (cs : Array Value) (fr : Nat × Nat) (d : TypeDesc) (v v' : Value)
  (hp : tmps.getD p undef = .pointer (some ⟨g, 0, none⟩)) (hq : tmps.getD q undef = v) (hu' : tmps.getD u undef = v') (hg : w.heap[g]? = some (.cells cs t fr))
  (hu : P.underlying ty = some d) (hd : (match d with | .struct _ | .array _ _ => true | _ => false) = true) (hi : (P.info? ty).map (·.size) = some cs.size) :
  (results fn tmps).run P w = .ok (.tuple #[.agg cs, v, v']) w := by
 have hp' : tmps[p]?.getD undef = .pointer (some ⟨g, 0, none⟩) := by simpa using hp
 have hq' : tmps[q]?.getD undef = v := by simpa using hq
 have hu2 : tmps[u]?.getD undef = v' := by simpa using hu'
 simp [results, h, hp', hq', hu2, asAddr, run_loadVar_row w g t ty cs fr d hg hu hd hi]
section
variable {α : Type} {enc : α → List Value} {k : Nat} {T : TypeId}
theorem OwnR.set7 {N : Nat} {w : World} {v : Value} {l : List α} {g : Nat} (h : OwnR enc k T N w v l) (ho : v.ownBlock ≠ some g) (a b c d e f i : Value) : OwnR enc k T N (((((((w.setCell ⟨g, 0, none⟩ a).setCell ⟨g, 1, none⟩ b).setCell ⟨g, 2, none⟩ c).setCell ⟨g, 3, none⟩ d).setCell ⟨g, 4, none⟩ e).setCell ⟨g, 5, none⟩ f).setCell ⟨g, 6, none⟩ i) v l := ((((((h.set ho 0 a).set ho 1 b).set ho 2 c).set ho 3 d).set ho 4 e).set ho 5 f).set ho 6 i
end
def opR (l : List Tk) (i : Nat) : Dc × Nat × Bool :=
 if namU l i = false then ((10, false, ⟨#[]⟩, ⟨#[]⟩, 0, [], 0), i, false)
 else if isU l (i + 1) 3 = false then ((10, false, txtU l i, ⟨#[]⟩, 0, [], 0), i + 1, false)
 else ((10, false, txtU l i, ⟨#[]⟩, 0, (opU l 17 (i + 1) []).1, 0), (opU l 17 (i + 1) []).2)
theorem frm1 {l : List Tk} {i : Nat} : frmU l i [110] = if namU l i = true then 1 else 0 := rfl
theorem frm2 {l : List Tk} {i : Nat} : frmU l i [110, 100] = if namU l i = true then (if isU l (i + 1) 2 = true then 2 else 1) else 0 := by
 rw [frmU, if_pos rfl]
 show (if namU l i = true then (if (if (100 : Int) = 110 then namU l (i + 1) else isU l (i + 1) 2) = true then 0 + 1 else 0) + 1 else 0) = _
 rw [if_neg (show ¬ (100 : Int) = 110 by decide)]
 rcases isU l (i + 1) 2 with _ | _ <;> rcases namU l i with _ | _ <;> rfl
theorem opU_zero {l : List Tk} {f i : Nat} {ds : List Dd} (h : (deedU (txtU l (i + 1))).1 = 0) : opU l (f + 1) i ds = (ds, i + 1, false) := by
 simp only [opU]
 rw [if_pos h]
theorem opU_less {l : List Tk} {f i : Nat} {ds : List Dd} {kd : Int} {fm : List Int} (h : deedU (txtU l (i + 1)) = (kd, fm)) (h0 : kd ≠ 0) (hk : frmU l (i + 2) fm < fm.length) : opU l (f + 1) i ds = (ds, i + 2 + frmU l (i + 2) fm, false) := by
 simp only [opU, h]
 rw [if_neg h0, if_pos hk]
theorem opU_more {l : List Tk} {f i : Nat} {ds : List Dd} {kd : Int} {fm : List Int} (h : deedU (txtU l (i + 1)) = (kd, fm)) (h0 : kd ≠ 0) (hk : frmU l (i + 2) fm = fm.length) : opU l (f + 1) i ds = (if isU l (i + 2 + fm.length) 4 = false ∨ (ds ++ [(kd, txtU l (i + 2), if fm.length = 2 then numU l (i + 3) else 0)]).length = 16 then (ds ++ [(kd, txtU l (i + 2), if fm.length = 2 then numU l (i + 3) else 0)], i + 2 + fm.length, true) else opU l f (i + 2 + fm.length) (ds ++ [(kd, txtU l (i + 2), if fm.length = 2 then numU l (i + 3) else 0)])) := by
 simp only [opU, h]
 rw [if_neg h0, if_neg (by omega), hk]
theorem nam_is1 {l : List Tk} {i : Nat} (h : namU l i = true) : isU l i 1 = true := by
 rw [namU_is, Bool.and_eq_true] at h
 exact h.1
end Go.Proofs.YtomppblgalepjaaGreatDoor

/- A line by the document (layer 15). -/
namespace Go.Proofs.YtomppblgalepjaaGreatDoor
open Go.RowKit Go.Lib
set_option linter.unusedVariables false
def Txt0 (l : List Tk) : Prop := ∀ (i : Nat) t, l[i]? = some t → t.1 ≠ 1 → t.2.1 = ⟨#[]⟩
def thL : List ByteArray := [⟨#[115, 101, 116]⟩, ⟨#[99, 111, 117, 110, 116]⟩, ⟨#[110, 111, 116, 101]⟩]
def isTh (s : ByteArray) : Prop := s = ⟨#[115, 101, 116]⟩ ∨ s = ⟨#[99, 111, 117, 110, 116]⟩ ∨ s = ⟨#[110, 111, 116, 101]⟩
theorem th_mem {s : ByteArray} {i : Nat} (h : thL[i]? = some s) : isTh s ∧ (if s = ⟨#[115, 101, 116]⟩ then (1 : Int) else if s = ⟨#[99, 111, 117, 110, 116]⟩ then 2 else 3) = 1 + (i : Int) := by
 rcases i with _ | _ | _ | i
 ·cases h; exact ⟨.inl rfl, rfl⟩
 ·cases h; exact ⟨.inr (.inl rfl), rfl⟩
 ·cases h; exact ⟨.inr (.inr rfl), rfl⟩
 ·cases h
theorem dcl_th0 {l : List Tk} (h : isTh (txtU l 0)) (hn : namU l 1 = false) : dclU l = ((0, false, ⟨#[]⟩, ⟨#[]⟩, 0, [], 0), 1, false) := by
 unfold dclU
 simp only
 rw [if_pos (show _ ∨ _ ∨ _ from h), if_neg (by rw [hn]; decide)]
theorem dcl_th1 {l : List Tk} {i : Nat} (h : thL[i]? = some (txtU l 0)) (hn : namU l 1 = true) : dclU l = ((1 + (i : Int), false, txtU l 1, ⟨#[]⟩, 0, [], 0), 2, true) := by
 have q := th_mem h
 unfold dclU
 simp only
 rw [if_pos (show _ ∨ _ ∨ _ from q.1), if_pos hn, q.2]
theorem dcl_op {l : List Tk} (h : txtU l 0 = ⟨#[111, 112]⟩) : dclU l = opR l 1 := by
 unfold dclU opR
 simp only
 rw [if_neg (by rw [h]; decide), if_pos h]
theorem dcl_no {l : List Tk} (h : ¬ isTh (txtU l 0)) (h2 : txtU l 0 ≠ ⟨#[111, 112]⟩) (h3 : txtU l 0 ≠ ⟨#[114, 117, 108, 101]⟩) : dclU l = ((0, false, ⟨#[]⟩, ⟨#[]⟩, 0, [], 0), 0, false) := by
 unfold dclU
 simp only
 rw [if_neg (show ¬ (_ ∨ _ ∨ _) from h), if_neg h2, if_neg h3]
def rlR (l : List Tk) (st : Bool) (i : Nat) : Dc × Nat × Bool :=
 if (ruleU (txtU l i)).1 = 0 then ((0, st, ⟨#[]⟩, ⟨#[]⟩, 0, [], 0), i, false)
 else if frmU l (i + 1) (ruleU (txtU l i)).2 < 2 then ((0, st, ⟨#[]⟩, ⟨#[]⟩, 0, [], 0), i + 1 + frmU l (i + 1) (ruleU (txtU l i)).2, false)
 else (((ruleU (txtU l i)).1, st, txtU l (i + 1), txtU l (i + 2), numU l (i + 2), [], 0), i + 3, true)
theorem dcl_rl {l : List Tk} (h : txtU l 0 = ⟨#[114, 117, 108, 101]⟩) (st : Bool) (hs : decide (txtU l 1 = ⟨#[115, 116, 114, 105, 99, 116]⟩) = st) : dclU l = rlR l st (if st = true then 2 else 1) := by
 unfold dclU rlR
 simp only
 rw [if_neg (by rw [h]; decide), if_neg (by rw [h]; decide), if_pos h, hs]
end Go.Proofs.YtomppblgalepjaaGreatDoor

/- Lines of tokens, step by step; what the tokens of a text are (layer 15), in plain mathematics. -/
namespace Go.Proofs.YtomppblgalepjaaGreatDoor
set_option linter.unusedVariables false
def Tx (out : List Tk) : Prop := ∀ t ∈ out, t.1 ≠ 1 → t.2.1 = ⟨#[]⟩
def Tx0 : LxR → Prop
 | .error _ => True
 | .ok (_, out) => Tx out
theorem tokW_tx {l : List Int} {ln : Int} {tk : Tk} (h : tokW l ln = some tk) : tk.1 ≠ 1 → tk.2.1 = ⟨#[]⟩ := by
 unfold tokW at h
 split at h
 ·cases h; intro h; exact absurd rfl h
 ·split at h
  ·cases h; intro _; rfl
  ·cases h
theorem Tx0.push {out : List Tk} {tk : Tk} {ln : Int} {k : Int → List Tk → LxR} (h : ∀ ln out, Tx out → Tx0 (k ln out)) (ho : Tx out) (ht : tk.1 ≠ 1 → tk.2.1 = ⟨#[]⟩) : Tx0 (pushT out tk ln k) := by
 unfold pushT
 split
 ·trivial
 ·exact h _ _ (fun t hm => (List.mem_append.1 hm).elim (ho t) (fun q => by rw [List.mem_singleton.1 q]; exact ht))
theorem lexP_tx : ∀ (f : Nat) (l : List Int) (ln : Int) (out : List Tk), Tx out → Tx0 (lexP f l ln out)
 | 0, l, ln, out, h => h
 | f + 1, [], ln, out, h => h
 | f + 1, c :: t, ln, out, h => by
  rw [lexP]
  split
  ·exact lexP_tx f _ _ _ h
  split
  ·exact lexP_tx f _ _ _ h
  split
  ·exact Tx0.push (fun ln out h => lexP_tx f t ln out h) h (fun _ => rfl)
  split
  ·exact Tx0.push (fun ln out h => lexP_tx f t ln out h) h (fun _ => rfl)
  split
  ·exact Tx0.push (fun ln out h => lexP_tx f t ln out h) h (fun _ => rfl)
  split
  ·split
   ·trivial
   ·rename_i htk
    exact Tx0.push (fun ln out h => lexP_tx f _ ln out h) h (tokW_tx htk)
  ·trivial
def EndT (l : List Tk) : Prop := l = [] ∨ ∃ A t, l = A ++ [t] ∧ t.1 = 0
theorem lexB_ends {l : List Int} {ts : List Tk} {x e : Int} (h : lexB l = (ts, x, e)) : EndT ts ∧ Txt0 ts := by
 have nil : EndT [] ∧ Txt0 [] := ⟨.inl rfl, fun i t ht => by simp at ht⟩
 unfold lexB at h
 split at h
 ·cases h; exact nil
 ·have q := lexP_tx l.length l 1 [] (fun t ht => by cases ht)
  rcases hr : lexP l.length l 1 [] with ⟨y, e'⟩ | ⟨ln, A⟩
  ·rw [hr] at h
   cases h
   exact nil
  ·rw [hr] at h q
   unfold finL at h
   split at h
   ·rename_i heq
    cases heq
   ·rename_i heq
    cases heq
    split at h
    ·cases h; exact nil
    ·cases h
     refine ⟨.inr ⟨A, _, rfl, rfl⟩, fun i t ht hk => ?_⟩
     rcases List.mem_append.1 (List.mem_of_getElem? ht) with hm | hm
     ·exact q t hm hk
     ·rw [List.mem_singleton.1 hm]
theorem EndT.drop {l : List Tk} (h : EndT l) (k : Nat) : EndT (l.drop k) := by
 rcases h with rfl | ⟨A, t, rfl, ht⟩
 ·left; simp
 ·by_cases hk : k ≤ A.length
  ·right
   exact ⟨A.drop k, t, by rw [List.drop_append_of_le_length hk], ht⟩
  ·left
   exact List.drop_eq_nil_of_le (by simp; omega)
theorem EndT.mem {l : List Tk} (h : EndT l) (h0 : l ≠ []) : ∃ t, t ∈ l ∧ inU t = false := by
 rcases h with rfl | ⟨A, t, rfl, ht⟩
 ·exact absurd rfl h0
 ·exact ⟨t, by simp, by unfold inU; rw [ht]; rfl⟩
theorem Txt0.drop {l : List Tk} (h : Txt0 l) (k : Nat) : Txt0 (l.drop k) := fun i t ht => h (k + i) t (by rw [List.getElem?_drop] at ht; exact ht)
theorem dcl_at {l : List Tk} (h : EndT l) (h0 : l ≠ []) : dclU l = dclU (l.takeWhile inU) ∧ (dclU l).2.1 ≤ (l.takeWhile inU).length ∧ ∀ i, i ≤ (l.takeWhile inU).length → ∃ u, l[i]? = some u ∧ ((isU l i 5 = true ∨ isU l i 0 = true) ↔ i = (l.takeWhile inU).length) := by
 obtain ⟨ha, u, hu, hf⟩ := agr_take (h.mem h0)
 have q := ha.dcl
 refine ⟨q.1, by rw [q.1]; exact q.2, fun i hi => ?_⟩
 by_cases e : i = (l.takeWhile inU).length
 ·refine ⟨u, by rw [e]; exact hu, fun _ => e, fun _ => ?_⟩
  rw [e, isU_at hu, isU_at hu]
  unfold inU at hf
  rw [decide_eq_false_iff_not] at hf
  by_cases h5 : u.1 = 5
  ·left; rw [decide_eq_true h5]
  ·right; rw [decide_eq_true (by omega)]
 ·have hlt : i < (l.takeWhile inU).length := by omega
  have e1 := ha.1 i hlt
  have e2 := List.getElem?_eq_getElem hlt
  have hin : inU (l.takeWhile inU)[i] = true := List.all_eq_true.1 (List.all_takeWhile (p := inU) (l := l)) _ (List.getElem_mem hlt)
  rw [e2] at e1
  refine ⟨_, e1, fun hh => ?_, fun hh => absurd hh e⟩
  unfold inU at hin
  rw [decide_eq_true_iff] at hin
  rw [isU_at e1, isU_at e1, decide_eq_true_iff, decide_eq_true_iff] at hh
  rcases hh with hh | hh
  ·exact absurd hh hin.2
  ·exact absurd hh hin.1
end Go.Proofs.YtomppblgalepjaaGreatDoor

/- What the tokens of a line are to one who reads them in their order (layer 15), in plain mathematics. -/
namespace Go.Proofs.YtomppblgalepjaaGreatDoor
set_option linter.unusedVariables false
def Tn (out : List Tk) : Prop := ∀ t ∈ out, t.1 = 1 → t.2.2.1 = 0
def Tn0 : LxR → Prop
 | .error _ => True
 | .ok (_, out) => Tn out
theorem tokW_tn {l : List Int} {ln : Int} {tk : Tk} (h : tokW l ln = some tk) : tk.1 = 1 → tk.2.2.1 = 0 := by
 unfold tokW at h
 split at h
 ·cases h; intro _; rfl
 ·split at h
  ·cases h; intro h; exact absurd (show (2 : Int) = 1 from h) (by decide)
  ·cases h
theorem Tn0.push {out : List Tk} {tk : Tk} {ln : Int} {k : Int → List Tk → LxR} (h : ∀ ln out, Tn out → Tn0 (k ln out)) (ho : Tn out) (ht : tk.1 = 1 → tk.2.2.1 = 0) : Tn0 (pushT out tk ln k) := by
 unfold pushT
 split
 ·trivial
 ·exact h _ _ (fun t hm => (List.mem_append.1 hm).elim (ho t) (fun q => by rw [List.mem_singleton.1 q]; exact ht))
theorem lexP_tn : ∀ (f : Nat) (l : List Int) (ln : Int) (out : List Tk), Tn out → Tn0 (lexP f l ln out)
 | 0, l, ln, out, h => h
 | f + 1, [], ln, out, h => h
 | f + 1, c :: t, ln, out, h => by
  rw [lexP]
  split
  ·exact lexP_tn f _ _ _ h
  split
  ·exact lexP_tn f _ _ _ h
  split
  ·exact Tn0.push (fun ln out h => lexP_tn f t ln out h) h (fun _ => rfl)
  split
  ·exact Tn0.push (fun ln out h => lexP_tn f t ln out h) h (fun _ => rfl)
  split
  ·exact Tn0.push (fun ln out h => lexP_tn f t ln out h) h (fun _ => rfl)
  split
  ·split
   ·trivial
   ·rename_i htk
    exact Tn0.push (fun ln out h => lexP_tn f _ ln out h) h (tokW_tn htk)
  ·trivial
def Num0 (l : List Tk) : Prop := ∀ (i : Nat) t, l[i]? = some t → t.1 = 1 → t.2.2.1 = 0
theorem Num0.drop {l : List Tk} (h : Num0 l) (k : Nat) : Num0 (l.drop k) := fun i t ht => h (k + i) t (by rw [List.getElem?_drop] at ht; exact ht)
theorem lexB_num0 {l : List Int} {ts : List Tk} {x e : Int} (h : lexB l = (ts, x, e)) : Num0 ts := by
 have nil : Num0 [] := fun i t ht => by simp at ht
 unfold lexB at h
 split at h
 ·cases h; exact nil
 ·have q := lexP_tn l.length l 1 [] (fun t ht => by cases ht)
  rcases hr : lexP l.length l 1 [] with ⟨y, e'⟩ | ⟨ln, A⟩
  ·rw [hr] at h
   cases h
   exact nil
  ·rw [hr] at h q
   unfold finL at h
   split at h
   ·rename_i heq
    cases heq
   ·rename_i heq
    cases heq
    split at h
    ·cases h; exact nil
    ·cases h
     intro i t ht hk
     rcases List.mem_append.1 (List.mem_of_getElem? ht) with hm | hm
     ·exact q t hm hk
     ·rw [List.mem_singleton.1 hm]
def Ln (l : List Tk) (m : Nat) : Prop := (∀ k, k ≤ m → ∃ u, l[k]? = some u) ∧ (∀ k : Int, 1 ≤ k → k ≤ 4 → isU l m k = false) ∧ Txt0 l ∧ Num0 l
theorem Ln.is {l : List Tk} {m i : Nat} (h : Ln l m) (hi : i ≤ m) {k : Int} (k1 : 1 ≤ k) (k4 : k ≤ 4) (hk : isU l i k = true) : i + 1 ≤ m := by
 rcases Nat.lt_or_ge i m with hlt | hge
 ·omega
 ·have e : i = m := by omega
  rw [e, h.2.1 k k1 k4] at hk
  cases hk
theorem Ln.nam {l : List Tk} {m i : Nat} (h : Ln l m) (hi : i ≤ m) (hn : namU l i = true) : i + 1 ≤ m := h.is hi (by decide) (by decide) (nam_is1 hn)
theorem Ln.txt {l : List Tk} {m i : Nat} (h : Ln l m) (hi : i ≤ m) (hn : txtU l i ≠ ⟨#[]⟩) : i + 1 ≤ m := by
 rcases hx : isU l i 1 with _ | _
 ·exact absurd (txtU_far hx) hn
 ·exact h.is hi (by decide) (by decide) hx
theorem Ln.get {l : List Tk} {m i : Nat} (h : Ln l m) (hi : i ≤ m) : ∃ kd tx nn ln, l[i]? = some (kd, tx, nn, ln) ∧ txtU l i = tx := by
 obtain ⟨⟨kd, tx, nn, ln⟩, hu⟩ := h.1 i hi
 refine ⟨kd, tx, nn, ln, hu, ?_⟩
 rw [txtU_at hu]
 split
 ·rfl
 ·rename_i hk
  exact (h.2.2.1 i _ hu hk).symm
theorem Ln.num {l : List Tk} {m i : Nat} (h : Ln l m) (hn : isU l i 1 = true) : numU l i = 0 := by
 unfold isU at hn
 unfold numU
 split at hn
 ·rename_i t ht
  rw [decide_eq_true_iff] at hn
  exact h.2.2.2 i t ht hn
 ·cases hn
theorem txt_num {l : List Tk} {i : Nat} (h : isU l i 2 = true) : txtU l i = ⟨#[]⟩ := by
 apply txtU_far
 unfold isU at h ⊢
 split at h
 ·rw [decide_eq_true_iff] at h
  rw [decide_eq_false_iff_not]
  omega
 ·cases h
theorem frmN {l : List Tk} {i : Nat} : frmU l i [110, 110] = if namU l i = true then (if namU l (i + 1) = true then 2 else 1) else 0 := by
 show (if namU l i = true then (if namU l (i + 1) = true then 0 + 1 else 0) + 1 else 0) = _
 rcases namU l (i + 1) with _ | _ <;> rcases namU l i with _ | _ <;> rfl
theorem ln_of {l : List Tk} (h : EndT l) (h0 : l ≠ []) (ht : Txt0 l) (hn : Num0 l) : Ln l (l.takeWhile inU).length := by
 obtain ⟨ha, u, hu, hf⟩ := agr_take (h.mem h0)
 exact ⟨fun k hk => by obtain ⟨u, hu, _⟩ := (dcl_at h h0).2.2 k hk; exact ⟨u, hu⟩, ha.2, ht, hn⟩
end Go.Proofs.YtomppblgalepjaaGreatDoor

