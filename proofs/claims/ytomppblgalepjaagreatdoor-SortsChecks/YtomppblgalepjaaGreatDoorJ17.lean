/- Texts of this claim, joined: LE. -/
import Derived.Laws.Cover4
import Derived.Test.YtomppblgalepjaaGreatDoorJ15
import Derived.Test.YtomppblgalepjaaGreatDoorJ16
import Derived.Test.YtomppblgalepjaaGreatDoorJ2
import Derived.Test.YtomppblgalepjaaGreatDoorJ5
/- The reader of a text in memory (layer 14). -/
namespace Go.Proofs.YtomppblgalepjaaGreatDoor
open Go.RowKit Go.Lib
set_option linter.unusedVariables false
def IK (w w' : World) : Prop := ∀ (i : Nat) (s : ByteArray) (p : Nat), w.heap[i]? = some (.stringIter s p) → w'.heap[i]? = some (.stringIter s p)
theorem IK.refl (w : World) : IK w w := fun _ _ _ h => h
theorem IK.trans {u v w : World} (h : IK u v) (k : IK v w) : IK u w := fun i s p q => k i s p (h i s p q)
theorem IK.below {w w' : World} (h : Below w.heap.size w w') : IK w w' := fun i s p q => by
 rw [h.block i (Array.getElem?_eq_some_iff.1 q).1]
 exact q
theorem IK.set (w : World) (a : Addr) (v : Value) : IK w (w.setCell a v) := fun i s p q => by
 unfold World.setCell
 simp only [Array.getElem?_modify]
 by_cases e : a.block = i
 ·rw [if_pos e, q]; rfl
 ·rw [if_neg e]; exact q
section
variable {α : Type} {enc : α → List Value} {k : Nat} {T : TypeId}
theorem OwnR.ik {N : Nat} {w w' : World} {v : Value} {l : List α} (h : OwnR enc k T N w v l) (hg : w.grownBy w' v.ownBlock) : IK w w' := fun i s p q => by
 rw [hg.block i (Array.getElem?_eq_some_iff.1 q).1 (fun e => ?_)]
 ·exact q
 ·rcases h.2 with ⟨rfl, _⟩ | ⟨g, cap, cur, rfl, _, hgg, _⟩
  ·simp [Value.ownBlock] at e
  ·simp [Value.ownBlock] at e
   subst e
   rw [hgg] at q
   cases q
end
def LVN (N : Nat) (w : World) : Prop := LV w ∧ 0 < N ∧ 1 < N ∧ 2 < N
theorem var_lt {w : World} {n : String} {g : Nat} {cs : Array Value} (hg : Tryz.prog.globalNamed n = some g) (h : w.var? Tryz.prog n = some cs) : g < w.heap.size := by
 unfold World.var? at h
 rw [hg] at h
 simp only [Option.bind_some] at h
 cases hh : w.heap[g]? with
 | none => rw [hh] at h; cases h
 | some o => exact (Array.getElem?_eq_some_iff.1 hh).1
theorem LV.lvn {w : World} (h : LV w) : LVN w.heap.size w := by
 obtain ⟨⟨t1, p1, h1⟩, ⟨t2, p2, h2⟩, h3⟩ := h
 exact ⟨⟨⟨t1, p1, h1⟩, ⟨t2, p2, h2⟩, h3⟩, var_lt gES h1, var_lt gER h2, var_lt gPW h3⟩
theorem LVN.below {N : Nat} {w w' : World} (h : LVN N w) (hb : Below N w w') : LVN N w' := by
 obtain ⟨⟨⟨t1, p1, h1⟩, ⟨t2, p2, h2⟩, h3⟩, l1, l2, l3⟩ := h
 exact ⟨⟨⟨t1, p1, var?_below hb gES l1 h1⟩, ⟨t2, p2, var?_below hb gER l2 h2⟩, var?_below hb gPW l3 h3⟩, l1, l2, l3⟩
def encRn (c : Int) : List Value := [.int .i32 c]
theorem encRn_len (c : Int) : (encRn c).length = 1 := rfl
theorem encRn_one (c : Int) : ∀ v ∈ encRn c, v.oneCell' = true := fun v hv => by
 simp only [encRn, List.mem_singleton] at hv
 subst hv
 rfl
theorem Tryz.infoRn : (Tryz.prog.info? 21).map (fun i => (i.zero, i.size, i.bytes)) = some (some (.int .i32 0), 1, 4) := by kernel_rfl
def RD14 (N : Nat) (w : World) (d : Nat) (out : List Tk) (ln : Int) (pt : List Int) (rm : Bool) : Prop := N ≤ d ∧ ∃ vT vP, BX w d #[vT, .int .i64 ln, vP, .bool rm] 109 ∧ OK14 N w vT out ∧ OwnR encRn 1 21 N w vP pt
theorem RD14.below {N d : Nat} {w w' : World} {out : List Tk} {ln : Int} {pt : List Int} {rm : Bool} (h : RD14 N w d out ln pt rm) (hb : Below w.heap.size w w') : RD14 N w' d out ln pt rm := by
 obtain ⟨hd, vT, vP, hx, ht, hp⟩ := h
 exact ⟨hd, vT, vP, hx.below hb, ht.below hb, hp.below hb⟩
theorem RD14.start (w : World) (g : Nat) (hg : g = w.heap.size) : RD14 w.heap.size (w.alloc (.cells #[.slice none 0 0, .int .i64 1, .slice none 0 0, .bool false] 109)) g [] 1 [] false :=
 ⟨by omega, _, _, BX.new w g hg _ _, OwnR.nil _ _, OwnR.nil _ _⟩
theorem tyTR : (129 : TypeId) ≠ 109 := by decide
theorem tyIR : (21 : TypeId) ≠ 109 := by decide
theorem tyTI : (129 : TypeId) ≠ 21 := by decide
theorem belN {N : Nat} {w w1 w2 : World} (hN : N ≤ w.heap.size) (h1 : Below N w w1) (h2 : Below w1.heap.size w1 w2) : Below N w w2 := h1.trans (h2.mono (Nat.le_trans hN h1.size))
theorem byR (N : Nat) {w : World} (hN : N ≤ w.heap.size) (o : Obj) : Below N w (w.alloc o) := (Below.refl N w).alloc hN o
theorem encode_low {c : Int} (h0 : 0 ≤ c) (h1 : c < 128) : Utf8.encode c = ⟨#[UInt8.ofNat c.toNat]⟩ := by
 have hv : Utf8.valid c = true := by
  unfold Utf8.valid
  rw [show decide (0 ≤ c) = true from decide_eq_true h0, show decide (c < 0xD800) = true from decide_eq_true (by omega)]
  rfl
 unfold Utf8.encode
 simp only [hv, if_true]
 rw [if_pos (by omega)]
theorem runes_str {l : List Int} (h : ∀ c ∈ l, 0 ≤ c ∧ c < 128) : runesBytes l = strOfNums l := by
 have q : ∀ (l : List Int) (s : ByteArray), (∀ c ∈ l, 0 ≤ c ∧ c < 128) → l.foldl (fun r n => r ++ Utf8.encode n) s = ⟨s.data ++ (strOfNums l).data⟩ := by
  intro l
  induction l with
  | nil => intro s _; apply ByteArray.ext; simp [strOfNums]
  | cons c t ih =>
   intro s h
   have hc := h c (List.mem_cons_self ..)
   rw [List.foldl_cons, ih _ (fun x hx => h x (List.mem_cons_of_mem _ hx)), encode_low hc.1 hc.2]
   apply ByteArray.ext
   simp [strOfNums, ByteArray.data_append]
 unfold runesBytes
 rw [q l _ h]
 apply ByteArray.ext
 simp
theorem flat_rn (l : List Int) : l.flatMap encRn = l.map (fun c => Value.int .i32 c) := by
 induction l with
 | nil => rfl
 | cons c t ih => rw [List.flatMap_cons, ih]; rfl
theorem conv14 {w : World} {b off n cap : Nat} {pt : List Int} (h : RS encRn 1 w (some ⟨b, off, none⟩) n pt) (hp : ∀ c ∈ pt, 0 ≤ c ∧ c < 128) : (convert 107 9 (.slice (some ⟨b, off, none⟩) n cap)).run Tryz.prog w = .ok (.string (strOfNums pt)) w := by
 have hn : pt.length = n := h.1
 rw [run_convert_runes w 107 9 21 ⟨b, off, none⟩ n cap pt (by omega) Tryz.underlying107 Tryz.underlying21 Tryz.underlying9 (fun j hj => ?_)]
 ·rw [List.take_of_length_le (by omega), runes_str hp]
 ·rw [addr_add]
  exact h.cells j _ (by rw [flat_rn, List.getElem?_map, List.getElem?_eq_getElem hj, List.getD_eq_getElem?_getD, List.getElem?_eq_getElem hj]; rfl) encRn_len (by decide)
theorem wd_low {c : Int} (h : isWd c = true) : 0 ≤ c ∧ c < 128 := by
 unfold isWd isLt isDg at h
 simp only [Bool.or_eq_true, decide_eq_true_iff] at h
 omega
end Go.Proofs.YtomppblgalepjaaGreatDoor

