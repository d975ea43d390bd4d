/- Layer 14: a line has six tokens; a text that comes in. -/
import Derived.Test.YtklfldemikjgkaaDoorLP
import Derived.Test.YtklfldemikjgkaaDoorL1
namespace Go.Proofs.YtklfldemikjgkaaDoor
open Go.RowKit Go.Lib Go.WideShapes Go.ChangeShapes
set_option linter.unusedVariables false
/-- A text that came in. -/
def InS14 (w : World) (v : Value) : Prop := ∃ t, v = .string t
set_option maxRecDepth 100000 in
theorem in_str14 {H : Type} {enc : TypeId × Value → H} {W : World} {v : Value} {d : DataW H} {p : List MemPlace} {base : Nat} (hok : Value.okWide Tryd.prog W .any base 9 v) (h : DataW.Trod enc Tryd.prog W 0 (fun _ => true) true 9 v d p) (hw : ∀ n ∈ d.weights Tryd.prog 9, n ≤ reachBytes) : InS14 W v := by
  obtain ⟨s, hs⟩ := okWide_string Tryd.underlying9 hok
  exact ⟨s, hs⟩
theorem lexB_len (l : List Int) : (lexB l).1.length ≤ 800 := by
  unfold lexB
  split
  · simp
  · unfold finL
    split
    · simp
    · split
      · simp
      · simp only [List.length_append, List.length_singleton]; omega
def opPut : ByteArray := ⟨#[111, 112, 32, 112, 117, 116, 58, 32, 97, 100, 100, 32, 97]⟩
theorem opPut_lex : lexB (bytesL opPut) = ([(1, ⟨#[111, 112]⟩, 0, 1), (1, ⟨#[112, 117, 116]⟩, 0, 1), (3, ⟨#[]⟩, 0, 1), (1, ⟨#[97, 100, 100]⟩, 0, 1), (1, ⟨#[97]⟩, 0, 1), (0, ⟨#[]⟩, 0, 1)], 0, 0) := by rfl
set_option maxHeartbeats 4000000 in
set_option maxRecDepth 2000 in
theorem awake14 (w : World) (hv : LV w) : Calls Tryd.prog 6 #[] w fun e w' => e = .returned (.bool true) ∧ Below w.heap.size w w' := by
  have HR := hide (fun W (hW : LV W) => ReadP14 opPut W (by decide) hW)
  have HV := hide hv
  clear hv
  have HA := hide (fun (t : ByteArray) W (h : t.size ≤ 10000) => WordP14 t W h)
  have H1 : Hid (wordB (bytesL ⟨#[97, 49]⟩) = true) := by unfold Hid; rfl
  have H2 : Hid (wordB (bytesL ⟨#[49, 97]⟩) = false) := by unfold Hid; rfl
  go_enter Tryd.func6, Tryd.ntmps6
  go_upto_region 2 with (go_at_call 7; refine (HR.out _ HV.out).mono ?_; rintro e w1 ⟨p, c, ts, x, e0, rfl, hl, hk, _, hb⟩; have HL := hide hl; have HK := hide hk; have HB := hide hb; clear hl hk hb)
  obtain ⟨rfl, rfl, rfl⟩ : ts = [(1, ⟨#[111, 112]⟩, 0, 1), (1, ⟨#[112, 117, 116]⟩, 0, 1), (3, ⟨#[]⟩, 0, 1), (1, ⟨#[97, 100, 100]⟩, 0, 1), (1, ⟨#[97]⟩, 0, 1), (0, ⟨#[]⟩, 0, 1)] ∧ x = 0 ∧ e0 = 0 := by
    have q := HL.out
    rw [opPut_lex] at q
    cases q
    exact ⟨rfl, rfl, rfl⟩
  obtain ⟨b, off, rfl⟩ := KS.addr HK.out (by decide)
  obtain ⟨kd, tx, nn, ln, hx, c0, c1, c2, c3⟩ := KS.at HK.out 1 (by decide)
  obtain ⟨rfl, rfl⟩ : kd = 1 ∧ tx = ⟨#[112, 117, 116]⟩ := by cases hx; exact ⟨rfl, rfl⟩
  clear hx HL HK
  go_wp2_with (go_at_call 10; refine (HA.out _ _ (by decide)).mono ?_; rintro e w2 ⟨rfl, hb⟩; replace HB := hide (bel_next HB.out hb); clear hb; (first | rw [H1.out] | rw [H2.out]))
  go_ret
  exact ⟨rfl, HB.out⟩
end Go.Proofs.YtklfldemikjgkaaDoor
