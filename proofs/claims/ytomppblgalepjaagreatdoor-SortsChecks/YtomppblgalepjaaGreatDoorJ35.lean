/- Texts of this claim, joined: OQ. -/
import Derived.Test.YtomppblgalepjaaGreatDoorJ25
import Derived.Test.YtomppblgalepjaaGreatDoorJ32
import Derived.Test.YtomppblgalepjaaGreatDoorJ34
/- Rules that are being made by the program: five rows of the call's own, beside the box of what was seen (layer 16). -/
namespace Go.Proofs.YtomppblgalepjaaGreatDoor
open Go.RowKit Go.Lib
set_option linter.unusedVariables false
def RW (N : Nat) (w : World) (v1 v2 v3 v4 v5 : Value) (r : Ru) : Prop :=
 (OwnS N w v1 r.1 ∧ OwnS N w v2 r.2.1 ∧ OwnS N w v3 r.2.2.1 ∧ OwnC N w v4 r.2.2.2.1 ∧ OwnO N w v5 r.2.2.2.2) ∧ (Apt v1 v2 ∧ Apt v1 v3 ∧ Apt v2 v3)
theorem OwnR.keep {α : Type} {enc : α → List Value} {k : Nat} {T : TypeId} {N : Nat} {w w' : World} {v : Value} {l : List α} (h : OwnR enc k T N w v l) (hk : ∀ (g : Nat) (C : Array Value) (fr : Nat × Nat), w.heap[g]? = some (.cells C T fr) → w'.heap[g]? = w.heap[g]?) : OwnR enc k T N w' v l := by
 refine ⟨h.1, ?_⟩
 rcases h.2 with hn | ⟨g, cap, cur, rfl, hb', hgg, rest⟩
 ·exact .inl hn
 ·exact .inr ⟨g, cap, cur, rfl, hb', by rw [hk g _ _ hgg]; exact hgg, rest⟩
theorem RW.keep {N : Nat} {w w' : World} {v1 v2 v3 v4 v5 : Value} {r : Ru} (h : RW N w v1 v2 v3 v4 v5 r) (hk : ∀ (g : Nat) (C : Array Value) (t : TypeId) (fr : Nat × Nat), w.heap[g]? = some (.cells C t fr) → (t = 9 ∨ t = 43 ∨ t = 56 ∨ t = 60) → w'.heap[g]? = w.heap[g]?) : RW N w' v1 v2 v3 v4 v5 r := by
 obtain ⟨⟨h1, h2, h3, h4, h5⟩, ha⟩ := h
 refine ⟨⟨h1.keep (fun g C fr q => hk g C _ fr q (.inl rfl)), h2.keep (fun g C fr q => hk g C _ fr q (.inl rfl)), h3.keep (fun g C fr q => hk g C _ fr q (.inl rfl)), h4.keep (fun g C fr q => hk g C _ fr q (.inr (.inl rfl))), OwnO.keep h5 (fun g hc => ?_)⟩, ha⟩
 rcases hc with ⟨C, fr, q⟩ | ⟨C, fr, q⟩
 ·exact hk g C _ fr q (.inr (.inr (.inl rfl)))
 ·exact hk g C _ fr q (.inr (.inr (.inr rfl)))
theorem RW.below {N : Nat} {w w' : World} {v1 v2 v3 v4 v5 : Value} {r : Ru} (h : RW N w v1 v2 v3 v4 v5 r) (hb : Below w.heap.size w w') : RW N w' v1 v2 v3 v4 v5 r :=
 h.keep (fun g C t fr q _ => hb.block g (Array.getElem?_eq_some_iff.1 q).1)
theorem RW.set {N g : Nat} {w : World} {v1 v2 v3 v4 v5 : Value} {r : Ru} {C : Array Value} {t : TypeId} (h : RW N w v1 v2 v3 v4 v5 r) (hx : BX w g C t) (ht : ¬ (t = 9 ∨ t = 43 ∨ t = 56 ∨ t = 60)) (i : Nat) (x : Value) : RW N (w.setCell ⟨g, i, none⟩ x) v1 v2 v3 v4 v5 r := by
 refine h.keep (fun k C' t' fr q hq => ?_)
 have e : g ≠ k := fun e => by
  subst e
  unfold BX at hx
  rw [hx] at q
  cases q
  exact ht hq
 simp [World.setCell, Array.getElem?_modify, e]
theorem ty_seen : ¬ ((84 : TypeId) = 9 ∨ (84 : TypeId) = 43 ∨ (84 : TypeId) = 56 ∨ (84 : TypeId) = 60) := by decide
theorem ty_bld : ¬ ((50 : TypeId) = 9 ∨ (50 : TypeId) = 43 ∨ (50 : TypeId) = 56 ∨ (50 : TypeId) = 60) := by decide
theorem owns_map {H : Type} {w : World} {P : Program} {k : TypeId} {R : Value → Option (DataW H × List MemPlace)} {b n : Nat} {D : DataW H} (h : w.ownsMap P k R b n D) : ∃ es c, w.heap[b]? = some (.map es c) := by
 obtain ⟨es, c, h1, _⟩ := h
 exact ⟨es, c, h1⟩
theorem SN.offR {w : World} {D k : Nat} {h : Int × Int × Int} {x : Sn16} (hs : SN w D h k x) {g : Nat} {C : Array Value} {t : TypeId} {fr : Nat × Nat} (hg : w.heap[g]? = some (.cells C t fr)) (ht : t ≠ 84) : g < D ∨ D + 4 ≤ g := by
 rcases Nat.lt_or_ge g D with q | q
 ·exact .inl q
 rcases Nat.lt_or_ge g (D + 4) with q2 | q2
 ·exfalso
  have e : g = D ∨ g = D + 1 ∨ g = D + 2 ∨ g = D + 3 := by omega
  obtain ⟨h1, ⟨_, _, _, h2, _⟩, ⟨_, _, _, h3, _⟩, ⟨_, _, _, h4, _⟩⟩ := hs
  rcases e with rfl | rfl | rfl | rfl
  ·obtain ⟨es, c, q⟩ := owns_map h2; rw [hg] at q; cases q
  ·obtain ⟨es, c, q⟩ := owns_map h3; rw [hg] at q; cases q
  ·obtain ⟨es, c, q⟩ := owns_map h4; rw [hg] at q; cases q
  ·unfold BX at h1; rw [hg] at h1; cases h1; exact ht rfl
 ·exact .inr q2
theorem RW.gq {N D k : Nat} {w w' : World} {h : Int × Int × Int} {x : Sn16} {v1 v2 v3 v4 v5 : Value} {r : Ru} (hr : RW N w v1 v2 v3 v4 v5 r) (hs : SN w D h k x) (hg : GQ 4 D w w') : RW N w' v1 v2 v3 v4 v5 r :=
 hr.keep (fun g C t fr q hq => hg.2.1 g (Array.getElem?_eq_some_iff.1 q).1 (hs.offR q (fun e => by subst e; exact ty_seen hq)))
theorem SN.grown {α : Type} {enc : α → List Value} {kk : Nat} {T : TypeId} {N D k : Nat} {w w' : World} {h : Int × Int × Int} {x : Sn16} {v : Value} {l : List α} (hs : SN w D h k x) (hr : OwnR enc kk T N w v l) (hT : T ≠ 84) (hg : w.grownBy w' v.ownBlock) : SN w' D h k x := by
 have hsz := hs.size
 have e : ∀ j, D ≤ j → j < D + 4 → w'.heap[j]? = w.heap[j]? := fun j h1 h2 => hg.block j (by omega) (fun e => by
  obtain ⟨_, C, fr, q⟩ := hr.at e.symm
  have := hs.offR q hT
  omega)
 refine ⟨?_, hs.2.1.keep (e D (by omega) (by omega)), hs.2.2.1.keep (e _ (by omega) (by omega)), hs.2.2.2.keep (e _ (by omega) (by omega))⟩
 have q := hs.1
 unfold BX at q ⊢
 rw [e _ (by omega) (by omega)]
 exact q
theorem SN.set {D k g : Nat} {w : World} {h : Int × Int × Int} {x : Sn16} (hs : SN w D h k x) (hg : g < D ∨ D + 4 ≤ g) (i : Nat) (v : Value) : SN (w.setCell ⟨g, i, none⟩ v) D h k x := by
 have e : ∀ j, D ≤ j → j < D + 4 → (w.setCell ⟨g, i, none⟩ v).heap[j]? = w.heap[j]? := fun j h1 h2 => by
  have : g ≠ j := by omega
  simp [World.setCell, Array.getElem?_modify, this]
 exact ⟨BX.other hs.1 (by omega) i v, hs.2.1.keep (e D (by omega) (by omega)), hs.2.2.1.keep (e _ (by omega) (by omega)), hs.2.2.2.keep (e _ (by omega) (by omega))⟩
def MM (w : World) (M : Nat) (f : Int → ByteArray → Option Int) : Prop := ∃ k, MMp w M k f
theorem MM.keep {w w' : World} {M : Nat} {f : Int → ByteArray → Option Int} (h : MM w M f) (e : w'.heap[M]? = w.heap[M]?) : MM w' M f := by
 obtain ⟨k, h⟩ := h
 exact ⟨k, h.keep e⟩
theorem MM.lt {w : World} {M : Nat} {f : Int → ByteArray → Option Int} (h : MM w M f) : M < w.heap.size := by
 obtain ⟨k, h⟩ := h
 exact h.lt
theorem MM.below {w w' : World} {M : Nat} {f : Int → ByteArray → Option Int} (h : MM w M f) (hb : Below w.heap.size w w') : MM w' M f := h.keep (hb.block _ h.lt)
theorem MM.gq {n D : Nat} {w w' : World} {M : Nat} {f : Int → ByteArray → Option Int} (h : MM w M f) (hg : GQ n D w w') (hM : M < D) : MM w' M f := h.keep (hg.2.1 M h.lt (.inl hM))
theorem MM.set {w : World} {M g : Nat} {f : Int → ByteArray → Option Int} (h : MM w M f) (hg : g ≠ M) (i : Nat) (v : Value) : MM (w.setCell ⟨g, i, none⟩ v) M f := h.keep (by simp [World.setCell, Array.getElem?_modify, hg])
theorem MM.grown {α : Type} {enc : α → List Value} {kk : Nat} {T : TypeId} {N : Nat} {w w' : World} {M : Nat} {f : Int → ByteArray → Option Int} {v : Value} {l : List α} (h : MM w M f) (hr : OwnR enc kk T N w v l) (hg : w.grownBy w' v.ownBlock) : MM w' M f :=
 h.keep (hg.block _ h.lt (fun e => by
  obtain ⟨_, C, fr, q⟩ := hr.at e.symm
  obtain ⟨k, n, D, _, h2, _⟩ := h
  obtain ⟨es, c, q2⟩ := owns_map h2
  rw [q] at q2
  cases q2))
theorem RW.str1 {N : Nat} {w w' : World} {v1 v2 v3 v4 v5 v' : Value} {r : Ru} {s : ByteArray} (h : RW N w v1 v2 v3 v4 v5 r) (ho : OwnS N w' v' (r.1 ++ [s])) (hg : w.grownBy w' v1.ownBlock) (hw : v'.ownBlock = v1.ownBlock ∨ v'.ownBlock = some w.heap.size) : RW N w' v' v2 v3 v4 v5 (r.1 ++ [s], r.2) := by
 obtain ⟨⟨h1, h2, h3, h4, h5⟩, a1, a2, a3⟩ := h
 exact ⟨⟨ho, h2.apt hg a1, h3.apt hg a2, h4.grown hg (fun g hv hr => h1.apart h4 tySC g hr hv), OwnO.grown h5 h1 hg tySO tySD⟩, a1.move h2 hw, a2.move h3 hw, a3⟩
theorem RW.str2 {N : Nat} {w w' : World} {v1 v2 v3 v4 v5 v' : Value} {r : Ru} {s : ByteArray} (h : RW N w v1 v2 v3 v4 v5 r) (ho : OwnS N w' v' (r.2.1 ++ [s])) (hg : w.grownBy w' v2.ownBlock) (hw : v'.ownBlock = v2.ownBlock ∨ v'.ownBlock = some w.heap.size) : RW N w' v1 v' v3 v4 v5 (r.1, r.2.1 ++ [s], r.2.2) := by
 obtain ⟨⟨h1, h2, h3, h4, h5⟩, a1, a2, a3⟩ := h
 exact ⟨⟨h1.apt hg a1.symm, ho, h3.apt hg a3, h4.grown hg (fun g hv hr => h2.apart h4 tySC g hr hv), OwnO.grown h5 h2 hg tySO tySD⟩, (a1.symm.move h1 hw).symm, a2, a3.move h3 hw⟩
theorem RW.str3 {N : Nat} {w w' : World} {v1 v2 v3 v4 v5 v' : Value} {r : Ru} {s : ByteArray} (h : RW N w v1 v2 v3 v4 v5 r) (ho : OwnS N w' v' (r.2.2.1 ++ [s])) (hg : w.grownBy w' v3.ownBlock) (hw : v'.ownBlock = v3.ownBlock ∨ v'.ownBlock = some w.heap.size) : RW N w' v1 v2 v' v4 v5 (r.1, r.2.1, r.2.2.1 ++ [s], r.2.2.2) := by
 obtain ⟨⟨h1, h2, h3, h4, h5⟩, a1, a2, a3⟩ := h
 exact ⟨⟨h1.apt hg a2.symm, h2.apt hg a3.symm, ho, h4.grown hg (fun g hv hr => h3.apart h4 tySC g hr hv), OwnO.grown h5 h3 hg tySO tySD⟩, a1, (a2.symm.move h1 hw).symm, (a3.symm.move h2 hw).symm⟩
theorem RW.cls {N : Nat} {w w' : World} {v1 v2 v3 v4 v5 v' : Value} {r : Ru} {c : Cl} (h : RW N w v1 v2 v3 v4 v5 r) (ho : OwnC N w' v' (r.2.2.2.1 ++ [c])) (hg : w.grownBy w' v4.ownBlock) : RW N w' v1 v2 v3 v' v5 (r.1, r.2.1, r.2.2.1, r.2.2.2.1 ++ [c], r.2.2.2.2) := by
 obtain ⟨⟨h1, h2, h3, h4, h5⟩, ha⟩ := h
 exact ⟨⟨h1.grown hg (fun g hv hr => h4.apart h1 (fun e => tySC e.symm) g hr hv), h2.grown hg (fun g hv hr => h4.apart h2 (fun e => tySC e.symm) g hr hv), h3.grown hg (fun g hv hr => h4.apart h3 (fun e => tySC e.symm) g hr hv), ho, OwnO.grown h5 h4 hg tyCO tyCD⟩, ha⟩
def BD (N : Nat) (w : World) (gb D M : Nat) (h : Int × Int × Int) (k : Nat) (x : Sn16) (fn : Int → ByteArray → Option Int) (v1 v2 v3 v4 v5 : Value) (r : Ru) : Prop :=
 BX w gb #[v1, v2, v3, v4, v5, .pointer (some ⟨D + 3, 0, none⟩), .map (some M)] 50 ∧ SN w D h k x ∧ MM w M fn ∧ RW N w v1 v2 v3 v4 v5 r ∧ (D + 4 ≤ gb ∧ M < D ∧ N ≤ M ∧ N ≤ w.heap.size)
theorem BD.below {N gb D M k : Nat} {w w' : World} {h : Int × Int × Int} {x : Sn16} {fn : Int → ByteArray → Option Int} {v1 v2 v3 v4 v5 : Value} {r : Ru} (hd : BD N w gb D M h k x fn v1 v2 v3 v4 v5 r) (hb : Below w.heap.size w w') : BD N w' gb D M h k x fn v1 v2 v3 v4 v5 r :=
 ⟨hd.1.below hb, hd.2.1.below hb, hd.2.2.1.below hb, hd.2.2.2.1.below hb, hd.2.2.2.2.1, hd.2.2.2.2.2.1, hd.2.2.2.2.2.2.1, Nat.le_trans hd.2.2.2.2.2.2.2 hb.size⟩
theorem BD.gq {N gb D M k k' : Nat} {w w' : World} {h : Int × Int × Int} {x x' : Sn16} {fn : Int → ByteArray → Option Int} {v1 v2 v3 v4 v5 : Value} {r : Ru} (hd : BD N w gb D M h k x fn v1 v2 v3 v4 v5 r) (hg : GQ 4 D w w') (hs : SN w' D h k' x') : BD N w' gb D M h k' x' fn v1 v2 v3 v4 v5 r :=
 ⟨hd.1.gq hg (.inr hd.2.2.2.2.1), hs, hd.2.2.1.gq hg hd.2.2.2.2.2.1, hd.2.2.2.1.gq hd.2.1 hg, hd.2.2.2.2.1, hd.2.2.2.2.2.1, hd.2.2.2.2.2.2.1, Nat.le_trans hd.2.2.2.2.2.2.2 hg.1⟩
end Go.Proofs.YtomppblgalepjaaGreatDoor

