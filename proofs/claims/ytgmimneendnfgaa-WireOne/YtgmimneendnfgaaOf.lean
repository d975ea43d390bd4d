/- What 'Of' does: the sum of the parts, one behind the other. Asked: the parts lie in memory as said. -/
import Derived.Test.YtgmimneendnfgaaBase
import Derived.Lib.SlBytesConst
namespace Go.Proofs.Ytgmimneendnfgaa
open Go.RowKit

/-- A slice of slices of bytes: the parts 'ps'. -/
def PS (w : World) (a : Option Addr) (n : Nat) (ps : List (List Int)) : Prop :=
  ps.length = n ∧ n ≤ maxLen ∧ (n = 0 ∨ ∃ b off, a = some ⟨b, off, none⟩ ∧ ∀ i, i < n → ∃ x len cap, w.cell? ⟨b, off + i, none⟩ = some (.slice x len cap) ∧ BS w x len (ps.getD i []))

/-- Every cell that could be read can be read still, and holds what it held. -/
def Ext (w w' : World) : Prop := ∀ p v, w.cell? p = some v → w'.cell? p = some v
theorem Ext.refl (w : World) : Ext w w := fun _ _ h => h
theorem Ext.trans {a b c : World} (h : Ext a b) (k : Ext b c) : Ext a c := fun p v hp => k p v (h p v hp)
theorem Ext.alloc {a w : World} (h : Ext a w) (o : Obj) : Ext a (w.alloc o) := fun p v hp => Lib.cell?_alloc_marked o (h p v hp)
theorem Ext.below {a w w' : World} (h : Ext a w) (hb : Below w.heap.size w w') : Ext a w' := fun p v hp => by
  have h1 := h p v hp
  have hlt : p.block < w.heap.size := by
    rcases Nat.lt_or_ge p.block w.heap.size with h' | h'
    · exact h'
    · simp [World.cell?, Array.getElem?_eq_none h'] at h1
  rw [hb.cell hlt]; exact h1
theorem BS.ext {w w' : World} {a : Option Addr} {len : Nat} {l : List Int} (h : BS w a len l) (hx : Ext w w') : BS w' a len l := by
  obtain ⟨h1, h2, h3, h4⟩ := h
  refine ⟨h1, h2, h3, ?_⟩
  rcases h4 with h0 | ⟨b, off, ha, hc⟩
  · exact .inl h0
  · exact .inr ⟨b, off, ha, fun i hi => hx _ _ (hc i hi)⟩
theorem BS.new (w : World) (g : Nat) (hg : g = w.heap.size) (l : List Int) (C : Array Value) (hC : C = (l.map (Value.int .u8)).toArray) (fr : Nat × Nat) (n : Nat) (hn : l.length = n) (hmax : n ≤ maxLen) (hby : ∀ x ∈ l, 0 ≤ x ∧ x < 256) :
    BS (w.alloc (.cells C 5 fr)) (some ⟨g, 0, none⟩) n l := by
  subst hg hC
  refine ⟨hn, hmax, hby, .inr ⟨_, 0, rfl, fun i hi => ?_⟩⟩
  rw [World.cell?_alloc_mark]
  subst hn
  simp [List.getD_eq_getElem?_getD, hi]
theorem PS.new (w : World) (g : Nat) (hg : g = w.heap.size) (qs : List (Option Addr × Nat × Nat × List Int)) (C : Array Value) (hC : C = (qs.map fun q => Value.slice q.1 q.2.1 q.2.2.1).toArray) (fr : Nat × Nat)
    (n : Nat) (hn : qs.length = n) (hmax : n ≤ maxLen) (ps : List (List Int)) (hps : ps = qs.map fun q => q.2.2.2) (hq : ∀ q ∈ qs, BS w q.1 q.2.1 q.2.2.2) :
    PS (w.alloc (.cells C 27 fr)) (some ⟨g, 0, none⟩) n ps := by
  subst hg hC hps
  refine ⟨by simpa using hn, hmax, .inr ⟨_, 0, rfl, fun i hi => ?_⟩⟩
  rw [World.cell?_alloc_mark]
  subst hn
  refine ⟨qs[i].1, qs[i].2.1, qs[i].2.2.1, by simp [hi], ?_⟩
  have := (hq qs[i] (List.getElem_mem hi)).ext ((Ext.refl w).alloc (.cells (qs.map fun q => Value.slice q.1 q.2.1 q.2.2.1).toArray 27 fr))
  simpa [List.getD_eq_getElem?_getD, hi] using this

theorem foldl_drop2 (f : Int → List Int → Int) (l : List (List Int)) (k : Nat) (x : Int) (h : k < l.length) : (l.drop k).foldl f x = (l.drop (k + 1)).foldl f (f x (l.getD k [])) := by
  rw [List.drop_eq_getElem_cons h, List.foldl_cons]
  simp [List.getD_eq_getElem?_getD, h]

set_option maxHeartbeats 400000 in
theorem of_any (a : Option Addr) (n cap : Nat) (ps : List (List Int)) (w : World) (hP : PS w a n ps) :
    Calls Try.prog 39 #[.slice a n cap] w fun e w' => e = .returned (.int .u32 (of ps)) ∧ w' = w := by
  obtain ⟨hlen, hmax, hcells⟩ := hP
  unfold maxLen at hmax
  have hlen' := hide hlen
  clear hlen
  have hcells' := hide hcells
  clear hcells
  go_enter Try.func39, Try.ntmps39
  go_wp2
  go_loop [3, 8] (fun r i => ∃ (k : Nat) (x : Int), k ≤ n ∧ i = .int .i64 k ∧ 0 ≤ x ∧ x < 4294967296 ∧ r = .int .u32 x ∧ Hid ((ps.drop k).foldl on x = of ps)) (fun _ i => n - (intOf i).toNat)
  case atStart => exact ⟨0, 0, by omega, rfl, by omega, by omega, rfl, rfl⟩
  case round =>
    obtain ⟨k, x, hk, rfl, hx0, hx, rfl, hH⟩ := hrel
    by_cases hlt : k < n
    · have hstep : Hid ((ps.drop (k + 1)).foldl on (on x (ps.getD k [])) = of ps) := by
        have h2 := hH.out
        rw [foldl_drop2 on ps k x (by rw [hlen'.out]; exact hlt)] at h2
        exact h2
      clear hH
      rcases hcells'.out with h0 | ⟨b, off, rfl, hc⟩
      · omega
      · obtain ⟨y, len, cp, hck, hbs⟩ := hc k hlt
        have HB := hide hbs
        clear hc hcells' hbs
        go_wp2_with (go_at_call 42; refine (on_any _ _ _ _ _ _ (by exact HB.out)).mono ?_; rintro e w' ⟨rfl, rfl⟩)
        go_round
        case rel => exact ⟨k + 1, on x (ps.getD k []), by omega, by go_num, (on_bd _ _).1, (on_bd _ _).2, rfl, hstep⟩
        case measure => simp [intOf]; omega
    · have hkl : k = n := by omega
      subst hkl
      have hd : ps.drop k = [] := List.drop_of_length_le (by rw [hlen'.out]; exact Nat.le_refl _)
      have hE : Hid (x = of ps) := by have h2 := hH.out; rw [hd] at h2; exact h2
      clear hd hH
      go_wp2
      go_ret
      exact ⟨ret_int hE.out, rfl⟩

theorem conv_at (w : World) (C : Array Value) (n c g : Nat) (hg : g = w.heap.size) :
    (convert 27 27 (.slice (some ⟨g, 0, none⟩) n c)).run Try.prog (w.alloc (.cells C 5)) = .ok (.slice (some ⟨g, 0, none⟩) n c) (w.alloc (.cells C 5 (C.size, C.size + 1))) := by
  subst hg; exact Lib.run_convert_bytes_const w 27 5 C n c Try.underlying27 Try.underlying5

end Go.Proofs.Ytgmimneendnfgaa
