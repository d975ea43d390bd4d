/- Acts that came in, and what 'Light' tells of them. -/
import Derived.Test.YteamedilcpfkgaaGPut
namespace Go.Proofs.Yteamedilcpfkgaa
open Go.RowKit Go.ChangeShapes Go.WideShapes
set_option linter.unusedVariables false

/-- Something that is done with a disk. -/
structure Ac where
  o : Int
  i : Int
  b : List Int
  n : Int
  ks : List Int
def acR : Rl Ac := fun w cs x => ∃ pb nb cb pk nk ck, cs = [.int .i64 x.o, .int .i64 x.i, .slice pb nb cb, .int .i64 x.n, .slice pk nk ck] ∧ BS w pb nb x.b ∧ CP pb nb cb ∧ NS w pk nk x.ks ∧ CP pk nk ck ∧ -9223372036854775808 ≤ x.n ∧ x.n ≤ 9223372036854775807
theorem acR.stb : Stb acR := by
  intro w w' r x hx h
  obtain ⟨pb, nb, cb, pk, nk, ck, h1, h2, h3, h4, h5⟩ := h
  exact ⟨pb, nb, cb, pk, nk, ck, h1, h2.ext hx, h3, h4.ext hx, h5⟩
/-- Acts of a slice. -/
abbrev AS (w : World) (a : Option Addr) (n : Nat) (l : List Ac) : Prop := SR 5 acR w a n l
theorem Try.cellsAc : Try.prog.cellsOf 39 = 5 := by kernel_rfl
theorem Try.cellsI : Try.prog.cellsOf 3 = 1 := by kernel_rfl
theorem Try.cellsU8 : Try.prog.cellsOf 5 = 1 := by kernel_rfl
theorem Try.cellsBs : Try.prog.cellsOf 29 = 1 := by kernel_rfl
theorem Try.cellsIs : Try.prog.cellsOf 37 = 1 := by kernel_rfl
theorem len5 {α : Type} (l : List α) (h : l.length = 5) : ∃ a b c d e, l = [a, b, c, d, e] := by
  match l, h with
  | [a, b, c, d, e], _ => exact ⟨a, b, c, d, e, rfl⟩
set_option maxRecDepth 100000 in
theorem open_ac : Opens 39 acR := by
  intro H enc W fuel cs y h
  obtain ⟨xs, k, hk, hxy, hcl, hxl, hf⟩ := DataW.trod_struct Try.underlying39 h
  rw [Try.cellsAc] at hcl
  obtain ⟨v0, v1, v2, v3, v4, rfl⟩ := len5 cs hcl
  obtain ⟨y0, y1, y2, y3, y4, rfl⟩ := len5 xs hxl
  have g0 : DataW.trod enc Try.prog W 0 (fun _ => true) true k 3 (([v0, v1, v2, v3, v4].drop 0).take (Try.prog.cellsOf 3)) = some y0 := hf 0 _ rfl
  have g1 : DataW.trod enc Try.prog W 0 (fun _ => true) true k 3 (([v0, v1, v2, v3, v4].drop 1).take (Try.prog.cellsOf 3)) = some y1 := hf 1 _ rfl
  have g2 : DataW.trod enc Try.prog W 0 (fun _ => true) true k 29 (([v0, v1, v2, v3, v4].drop 2).take (Try.prog.cellsOf 29)) = some y2 := hf 2 _ rfl
  have g3 : DataW.trod enc Try.prog W 0 (fun _ => true) true k 3 (([v0, v1, v2, v3, v4].drop 3).take (Try.prog.cellsOf 3)) = some y3 := hf 3 _ rfl
  have g4 : DataW.trod enc Try.prog W 0 (fun _ => true) true k 37 (([v0, v1, v2, v3, v4].drop 4).take (Try.prog.cellsOf 37)) = some y4 := hf 4 _ rfl
  rw [Try.cellsI] at g0 g1 g3
  rw [Try.cellsBs] at g2
  rw [Try.cellsIs] at g4
  obtain ⟨a0, h0⟩ := Opens.int Try.underlying3 _ _ _ _ _ _ g0
  obtain ⟨a1, h1⟩ := Opens.int Try.underlying3 _ _ _ _ _ _ g1
  obtain ⟨l2, p2, n2, c2, h2, q2, r2⟩ := Opens.bytes Try.underlying29 Try.underlying5 Try.cellsU8 _ _ _ _ _ _ g2
  obtain ⟨a3, h3, _, hwf⟩ := DataW.trod_int Try.underlying3 g3
  have hr3 : -9223372036854775808 ≤ a3 ∧ a3 ≤ 9223372036854775807 := by
    have := hwf
    simp only [Lit.wf, IntKind.min, IntKind.max, IntKind.signed, IntKind.bits, Bool.and_eq_true, decide_eq_true_eq, if_true] at this
    omega
  obtain ⟨l4, p4, n4, c4, h4, q4, r4⟩ := Opens.nums Try.underlying37 Try.underlying3 Try.cellsI _ _ _ _ _ _ g4
  simp [intR] at h0 h1 h2 h3 h4
  subst h0 h1 h2 h3 h4
  exact ⟨⟨a0, a1, l2, a3, l4⟩, p2, n2, c2, p4, n4, c4, rfl, q2, r2, q4, r4, hr3⟩
/-- Acts that came in. -/
def InA (w : World) (v : Value) : Prop := ∃ a n cap l, v = .slice a n cap ∧ AS w a n l ∧ CP a n cap
set_option maxRecDepth 100000 in
theorem in_acts {H : Type} {enc : TypeId × Value → H} {W : World} {v : Value} {d : DataW H} {p : List MemPlace} {base : Nat} (hok : Value.okWide Try.prog W .any base 22 v) (h : DataW.Trod enc Try.prog W 0 (fun _ => true) true 22 v d p) (hw : ∀ n ∈ d.weights Try.prog 22, n ≤ reachBytes) : InA W v := by
  obtain ⟨l, a, n, cap, hv, h1, h2⟩ := Opens.in Try.underlying22 (Opens.slice Try.underlying22 Try.cellsAc (by decide) open_ac ⟨0, 0, [], 0, []⟩) hok h
  exact ⟨a, n, cap, l, by simpa using hv, h1, h2⟩
theorem take_snocA {α : Type} {l : List α} {k : Nat} {x : α} (h : l[k]? = some x) : l.take (k + 1) = l.take k ++ [x] := by
  obtain ⟨hk, rfl⟩ := List.getElem?_eq_some_iff.1 h
  rw [List.take_succ_eq_append_getElem hk]
def fewA (x : Ac) : Prop := x.b.length ≤ 200 ∧ x.ks.length ≤ 50
def LightA (n : Nat) (l : List Ac) (w : World) (e : Ending) (w' : World) : Prop := ∃ b : Bool, e = .returned (.bool b) ∧ (b = true → n ≤ 40 ∧ ∀ x ∈ l, fewA x) ∧ w' = w
set_option maxHeartbeats 4000000 in
/-- 'Light' answers, and where it says yes there are 40 at most, none of them too much. -/
theorem lightA_any (a : Option Addr) (n cap : Nat) (l : List Ac) (w : World) (hE : AS w a n l) : Calls Try.prog 5 #[.slice a n cap] w (LightA n l w) := by
  have HV := hide hE
  have hmx := hE.max
  unfold maxLen at hmx
  clear hE
  go_enter Try.func5, Try.ntmps5
  go_wp2
  go_loopw [3] (fun i wr => ∃ k : Nat, k ≤ n ∧ k ≤ 41 ∧ i = .int .i64 k ∧ Hid (∀ x ∈ l.take k, fewA x) ∧ wr = w) (fun i _ => n - (intOf i).toNat)
  case atStart => exact ⟨0, by omega, by omega, rfl, (fun x hx => by simp at hx), rfl⟩
  case round =>
    obtain ⟨k, hk, hk2, rfl, HF, hw⟩ := hrel
    subst hw
    by_cases hlt : k < n
    · by_cases hk40 : (k : Int) ≤ 40
      · obtain ⟨b, off, rfl⟩ := HV.out.addr (by omega)
        obtain ⟨x, r, hx, hrl, ⟨pb, nb, cb, pk, nk, ck, rfl, hb, hcb, hn, hck⟩, hc⟩ := HV.out.at k hlt
        have x0 := hc 0 _ rfl
        have x2 := hc 2 _ rfl
        have x4 := hc 4 _ rfl
        have hnb := hb.2.1
        have hnn := hn.2.1
        unfold maxLen at hnb hnn
        have q1 := hide hb.1
        have q2 := hide hn.1
        have HX := hide hx
        clear hc hb hn hcb hck hx hrl
        by_cases h1 : (nb : Int) > 200
        · go_wp2
          go_ret
          exact ⟨false, rfl, (fun h => by cases h), rfl⟩
        · by_cases h2 : (nk : Int) > 50
          · go_wp2
            go_ret
            exact ⟨false, rfl, (fun h => by cases h), rfl⟩
          · have HF2 : Hid (∀ x ∈ l.take (k + 1), fewA x) := by
              intro y hy
              rw [take_snocA HX.out] at hy
              rcases List.mem_append.1 hy with q | q
              · exact HF.out y q
              · rw [List.mem_singleton.1 q]
                have := q1.out
                have := q2.out
                exact ⟨by omega, by omega⟩
            go_wp2
            go_roundw
            case rel => exact ⟨k + 1, by omega, by omega, by go_num, HF2, trivial⟩
            case measure => simp [intOf]; omega
      · go_wp2
        go_ret
        exact ⟨_, rfl, (fun h => by have := of_decide_eq_true h; omega), rfl⟩
    · have hkl : k = n := by omega
      subst hkl
      by_cases h40 : (k : Int) ≤ 40
      · have HA : Hid (∀ x ∈ l, fewA x) := by
          have q := HF.out
          rw [List.take_of_length_le (by rw [HV.out.len]; exact Nat.le_refl _)] at q
          exact q
        go_wp2
        go_ret
        exact ⟨_, rfl, (fun h => ⟨by omega, HA.out⟩), rfl⟩
      · go_wp2
        go_ret
        exact ⟨false, rfl, (fun h => by cases h), rfl⟩
end Go.Proofs.Yteamedilcpfkgaa
