/- The document's Does and Live (layer 8). -/
import Derived.Test.YtiodlpoeifmldaaD0
import Derived.Test.YtiodlpoeifmldaaB4
namespace Go.Proofs.Ytiodlpoeifmldaa
open Go.RowKit Go.Lib
set_option linter.unusedVariables false
theorem does_yes {d : Dot} {c : List Int} {l : List Eff} {kind o : Int} {k : ByteArray} {i : Nat} {x : Eff} (hx : l[i]? = some x) (h1 : x.1 = kind) (h2 : x.2.1 = o) (h3 : kOf x = k) : doesB (d, c, l) kind o k = true := doesB_iff.2 ⟨x, List.mem_of_getElem? hx, h1, h2, h3⟩
def NoE (kind o : Int) (k : ByteArray) (x : Eff) : Prop := ¬ (x.1 = kind ∧ x.2.1 = o ∧ kOf x = k)
theorem does_no {d : Dot} {c : List Int} {l : List Eff} {kind o : Int} {k : ByteArray} (h : ∀ x ∈ l, NoE kind o k x) : doesB (d, c, l) kind o k = false := by
  rcases hb : doesB (d, c, l) kind o k with _ | _
  · rfl
  · obtain ⟨x, hx, q⟩ := doesB_iff.1 hb
    exact absurd q (h x hx)
theorem noE_step {kind o : Int} {k : ByteArray} {l : List Eff} {i : Nat} {x : Eff} (hx : l[i]? = some x) (h : ∀ y ∈ l.take i, NoE kind o k y) (hn : NoE kind o k x) : ∀ y ∈ l.take (i + 1), NoE kind o k y := by
  intro y hy
  rw [take_snocL hx] at hy
  rcases List.mem_append.1 hy with q | q
  · exact h y q
  · rw [List.mem_singleton] at q; subst q; exact hn
theorem ES.addr8 {w : World} {a : Option Addr} {n : Nat} {l : List Eff} (h : ES w a n l) (hn : 0 < n) : ∃ b off, a = some ⟨b, off, none⟩ := by
  rcases h.1.2.2 with h0 | ⟨b, off, ha, _⟩
  · omega
  · exact ⟨b, off, ha⟩
set_option maxHeartbeats 2000000 in
theorem Does_any (r s : Int) (pa : Option Addr) (na ca : Nat) (pe : Option Addr) (ne ce : Nat) (c : List Int) (l : List Eff) (kind o : Int) (k : ByteArray) (w : World) (hE : ES w pe ne l) : Calls Try.prog 50 #[.agg #[.int .i64 r, .int .i64 s, .slice pa na ca, .slice pe ne ce], .int .i64 kind, .int .i64 o, .string k] w fun e w' => e = .returned (.bool (doesB ((r, s), c, l) kind o k)) ∧ Below w.heap.size w w' := by
  have HV := hide hE
  have HLEN := hide hE.1.1
  have hmx := hE.1.2.1
  unfold maxLen at hmx
  have HBX0 := hide (BX.new w _ rfl #[.int .i64 r, .int .i64 s, .slice pa na ca, .slice pe ne ce] 60)
  have HB0 := hide (bel1 w (.cells #[.int .i64 r, .int .i64 s, .slice pa na ca, .slice pe ne ce] 60))
  clear hE
  go_enter Try.func50, Try.ntmps50
  go_wp2
  go_loopw [9] (fun v wr => ∃ i : Nat, i ≤ ne ∧ v = .int .i64 i ∧ Hid (∀ x ∈ l.take i, NoE kind o k x) ∧ Hid (BX wr w.heap.size #[.int .i64 r, .int .i64 s, .slice pa na ca, .slice pe ne ce] 60) ∧ Hid (Below w.heap.size w wr)) (fun v _ => ne - (intOf v).toNat)
  case atStart => exact ⟨0, by omega, rfl, (fun x hx => by simp at hx), HBX0, HB0⟩
  case round =>
    clear HBX0 HB0
    obtain ⟨i, hi, rfl, HF, HBX, HB⟩ := hrel
    have x2 := HBX.out.cell 3 _ rfl
    by_cases hlt : i < ne
    · obtain ⟨b, off, rfl⟩ := HV.out.addr8 (by omega)
      obtain ⟨⟨f1, f2, f3, f4, f5, f6⟩, hx⟩ : ∃ x, l[i]? = some x := ⟨_, List.getElem?_eq_getElem (by rw [HLEN.out]; exact hlt)⟩
      obtain ⟨c0, c1, c2, c3, c4, c5⟩ := (HV.out.below HB.out).at i _ hx
      simp only at c0 c1 c2 c3 c4 c5
      have hi0 : (0 : Int) ≤ (i : Int) := by omega
      have hi1 : (i : Int) < (ne : Int) := by omega
      have HX := hide hx
      have hq := eqK (strOfNums f3) k
      clear hx
      by_cases h1 : f1 = kind
      · by_cases h2 : f2 = o
        · by_cases h3 : strOfNums f3 = k
          · rw [decide_eq_true h3] at hq
            have HR : Hid (doesB ((r, s), c, l) kind o k = true) := does_yes HX.out h1 h2 h3
            clear h3
            go_wp2
            go_ret
            exact ⟨by rw [HR.out]; rfl, HB.out.alloc HB.out.size _⟩
          · rw [decide_eq_false h3] at hq
            have HF2 := hide (noE_step HX.out HF.out (fun q => h3 q.2.2))
            clear h3
            go_wp2
            go_roundw
            case rel => exact ⟨i + 1, by omega, by go_num, HF2, (show Hid _ from HBX.out.alloc _), (show Hid _ from HB.out.alloc HB.out.size _)⟩
            case measure => simp [intOf]; omega
        · have HF2 := hide (noE_step HX.out HF.out (fun q => h2 q.2.1))
          have hq2 : (f2 == o) = false := by rw [beq_eq_false_iff_ne]; exact h2
          go_wp2
          go_roundw
          case rel => exact ⟨i + 1, by omega, by go_num, HF2, (show Hid _ from HBX.out.alloc _), (show Hid _ from HB.out.alloc HB.out.size _)⟩
          case measure => simp [intOf]; omega
      · have HF2 := hide (noE_step HX.out HF.out (fun q => h1 q.1))
        have hq1 : (f1 == kind) = false := by rw [beq_eq_false_iff_ne]; exact h1
        go_wp2
        go_roundw
        case rel => exact ⟨i + 1, by omega, by go_num, HF2, (show Hid _ from HBX.out.alloc _), (show Hid _ from HB.out.alloc HB.out.size _)⟩
        case measure => simp [intOf]; omega
    · obtain rfl : i = ne := by omega
      have HR : Hid (doesB ((r, s), c, l) kind o k = false) := does_no (by have := HF.out; rwa [← HLEN.out, List.take_length] at this)
      clear HF
      go_wp2
      go_ret
      exact ⟨by rw [HR.out]; rfl, HB.out⟩
/-- What is live among those that were looked at. -/
theorem live_step {l : List Evt} {j : Nat} {e f : Evt} {o : Int} {k : ByteArray} {b v : Bool} (hx : l[j]? = some f) (h : v = (b && !((l.take j).any fun f => ahE e f && touchB f o k))) (hn : ahdB e.1 f.2.1 = false ∨ touchB f o k = false) : v = (b && !((l.take (j + 1)).any fun f => ahE e f && touchB f o k)) := by
  rw [take_snocL hx, List.any_append, h]
  have : ahE e f = ahdB e.1 f.2.1 := rfl
  rcases hn with hn | hn
  · simp [this, hn]
  · simp [hn]
theorem live_stop {l : List Evt} {j : Nat} {e f : Evt} {o : Int} {k : ByteArray} {b : Bool} (hx : l[j]? = some f) (ha : ahdB e.1 f.2.1 = true) (ht : touchB f o k = true) : false = (b && !((l.take (j + 1)).any fun f => ahE e f && touchB f o k)) := by
  rw [take_snocL hx, List.any_append]
  have : ahE e f = ahdB e.1 f.2.1 := rfl
  simp [this, ha, ht]
/-- The Live of the first events. -/
def liveU (l : List Evt) (o : Int) (k : ByteArray) (i : Nat) : List Dot := ordD (((l.take i).filter (liveB l o k)).map (·.1))
theorem liveU_yes {l : List Evt} {o : Int} {k : ByteArray} {i : Nat} {e : Evt} (hx : l[i]? = some e) (h : liveB l o k e = true) : liveU l o k (i + 1) = putD (liveU l o k i) e.1 := by
  unfold liveU
  rw [take_snocL hx, List.filter_append, List.map_append]
  simp [h, ordD]
theorem liveU_no {l : List Evt} {o : Int} {k : ByteArray} {i : Nat} {e : Evt} (hx : l[i]? = some e) (h : liveB l o k e = false) : liveU l o k (i + 1) = liveU l o k i := by
  unfold liveU
  rw [take_snocL hx, List.filter_append, List.map_append]
  simp [h]
theorem liveU_len (l : List Evt) (o : Int) (k : ByteArray) (i : Nat) : (liveU l o k i).length ≤ l.length := by
  unfold liveU
  have h1 := foldl_putD_len (((l.take i).filter (liveB l o k)).map (·.1)) []
  have h2 : ((l.take i).filter (liveB l o k)).length ≤ (l.take i).length := List.length_filter_le _ _
  rw [List.length_map] at h1
  rw [List.length_take] at h2
  unfold ordD
  simp only [List.length_nil] at h1
  omega
end Go.Proofs.Ytiodlpoeifmldaa
