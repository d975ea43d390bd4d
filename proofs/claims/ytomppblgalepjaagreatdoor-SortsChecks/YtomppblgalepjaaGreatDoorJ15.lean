/- Texts of this claim, joined: LLay, LC. -/
import Derived.Shelf.Strconv.ErrVarAll
import Derived.Shelf.Strconv.Itoa3
import Derived.Test.YtomppblgalepjaaGreatDoorProg
import Derived.Lib.AtoiAllCases
import Derived.Lib.AtoiErrMem
import Derived.Lib.AppendIntMem
import Derived.Test.YtomppblgalepjaaGreatDoorJ14
import Derived.Test.YtomppblgalepjaaGreatDoorJ8
/- Where the contracts of the library lie in this program: numbers alone. -/
namespace Go.Proofs.YtomppblgalepjaaGreatDoor
open Go.Shelf

def atoiD_ren : Go.Shelf.Ren := ⟨fun | 172 => 105 | 244 => 111 | 245 => 112 | 247 => 115 | 279 => 116 | 280 => 117 | 281 => 118 | 282 => 119 | 287 => 121 | 316 => 122 | 171 => 106 | 205 => 123 | 321 => 128 | 322 => 129 | 243 => 113 | 246 => 120 | 283 => 124 | 284 => 125 | 285 => 126 | 286 => 127 | 129 => 131 | 317 => 130 | 318 => 132 | 319 => 133 | 320 => 134 | 337 => 135 | 338 => 136 | n => n, fun | 9 => 9 | 3 => 3 | 75 => 143 | 76 => 144 | 4 => 4 | 5 => 5 | 167 => 150 | 37 => 151 | 0 => 0 | 85 => 152 | 2 => 2 | 168 => 154 | 53 => 158 | 175 => 159 | 46 => 161 | 210 => 164 | 127 => 172 | 145 => 175 | 143 => 173 | 21 => 21 | 171 => 166 | 173 => 169 | 212 => 177 | 51 => 178 | 20 => 20 | 213 => 179 | 232 => 182 | 233 => 183 | 80 => 139 | n => n, fun | 15 => 0 | 16 => 1 | 17 => 2 | 18 => 3 | 19 => 4 | n => n⟩
theorem atoiD : Go.Proofs.LaysC.n172 Tryz.prog atoiD_ren := {
 mixed := by kernel_rfl,
 f129 := Tryz.func131.trans (congrArg some (by kernel_rfl)),
 f171 := Tryz.func106.trans (congrArg some (by kernel_rfl)),
 f172 := Tryz.func105.trans (congrArg some (by kernel_rfl)),
 f205 := Tryz.func123.trans (congrArg some (by kernel_rfl)),
 f243 := Tryz.func113.trans (congrArg some (by kernel_rfl)),
 f244 := Tryz.func111.trans (congrArg some (by kernel_rfl)),
 f245 := Tryz.func112.trans (congrArg some (by kernel_rfl)),
 f246 := Tryz.func120.trans (congrArg some (by kernel_rfl)),
 f247 := Tryz.func115.trans (congrArg some (by kernel_rfl)),
 f279 := Tryz.func116.trans (congrArg some (by kernel_rfl)),
 f280 := Tryz.func117.trans (congrArg some (by kernel_rfl)),
 f281 := Tryz.func118.trans (congrArg some (by kernel_rfl)),
 f282 := Tryz.func119.trans (congrArg some (by kernel_rfl)),
 f283 := Tryz.func124.trans (congrArg some (by kernel_rfl)),
 f284 := Tryz.func125.trans (congrArg some (by kernel_rfl)),
 f285 := Tryz.func126.trans (congrArg some (by kernel_rfl)),
 f286 := Tryz.func127.trans (congrArg some (by kernel_rfl)),
 f287 := Tryz.func121.trans (congrArg some (by kernel_rfl)),
 f316 := Tryz.func122.trans (congrArg some (by kernel_rfl)),
 f317 := Tryz.func130.trans (congrArg some (by kernel_rfl)),
 f318 := Tryz.func132.trans (congrArg some (by kernel_rfl)),
 f319 := Tryz.func133.trans (congrArg some (by kernel_rfl)),
 f320 := Tryz.func134.trans (congrArg some (by kernel_rfl)),
 f321 := Tryz.func128.trans (congrArg some (by kernel_rfl)),
 f322 := Tryz.func129.trans (congrArg some (by kernel_rfl)),
 f337 := Tryz.func135.trans (congrArg some (by kernel_rfl)),
 f338 := Tryz.func136.trans (congrArg some (by kernel_rfl)),
 t0 := Tryz.underlying0,
 a0 := Tryz.isAgg0,
 z0 := Tryz.sizeOf0,
 v0 := Tryz.zeroValue0,
 t2 := Tryz.underlying2,
 a2 := Tryz.isAgg2,
 z2 := Tryz.sizeOf2,
 v2 := Tryz.zeroValue2,
 t3 := Tryz.underlying3,
 a3 := Tryz.isAgg3,
 z3 := Tryz.sizeOf3,
 v3 := Tryz.zeroValue3,
 t4 := Tryz.underlying4,
 a4 := Tryz.isAgg4,
 z4 := Tryz.sizeOf4,
 v4 := Tryz.zeroValue4,
 t5 := Tryz.underlying5,
 a5 := Tryz.isAgg5,
 z5 := Tryz.sizeOf5,
 v5 := Tryz.zeroValue5,
 t9 := Tryz.underlying9,
 a9 := Tryz.isAgg9,
 z9 := Tryz.sizeOf9,
 v9 := Tryz.zeroValue9,
 t20 := Tryz.underlying20,
 a20 := Tryz.isAgg20,
 z20 := Tryz.sizeOf20,
 v20 := Tryz.zeroValue20,
 t21 := Tryz.underlying21,
 a21 := Tryz.isAgg21,
 z21 := Tryz.sizeOf21,
 v21 := Tryz.zeroValue21,
 t37 := Tryz.underlying151,
 a37 := Tryz.isAgg151,
 z37 := Tryz.sizeOf151,
 v37 := Tryz.zeroValue151,
 t46 := Tryz.underlying161,
 a46 := Tryz.isAgg161,
 z46 := Tryz.sizeOf161,
 v46 := Tryz.zeroValue161,
 t51 := Tryz.underlying178,
 a51 := Tryz.isAgg178,
 z51 := Tryz.sizeOf178,
 v51 := Tryz.zeroValue178,
 t53 := Tryz.underlying158,
 a53 := Tryz.isAgg158,
 z53 := Tryz.sizeOf158,
 v53 := Tryz.zeroValue158,
 t75 := Tryz.underlying143,
 a75 := Tryz.isAgg143,
 z75 := Tryz.sizeOf143,
 v75 := Tryz.zeroValue143,
 t76 := Tryz.underlying144,
 a76 := Tryz.isAgg144,
 z76 := Tryz.sizeOf144,
 v76 := Tryz.zeroValue144,
 t85 := Tryz.underlying152,
 a85 := Tryz.isAgg152,
 z85 := Tryz.sizeOf152,
 v85 := Tryz.zeroValue152,
 t127 := Tryz.underlying172,
 a127 := Tryz.isAgg172,
 z127 := Tryz.sizeOf172,
 v127 := Tryz.zeroValue172,
 t143 := Tryz.underlying173,
 a143 := Tryz.isAgg173,
 z143 := Tryz.sizeOf173,
 v143 := Tryz.zeroValue173,
 t145 := Tryz.underlying175,
 a145 := Tryz.isAgg175,
 z145 := Tryz.sizeOf175,
 v145 := Tryz.zeroValue175,
 t167 := Tryz.underlying150,
 a167 := Tryz.isAgg150,
 z167 := Tryz.sizeOf150,
 v167 := Tryz.zeroValue150,
 t168 := Tryz.underlying154,
 a168 := Tryz.isAgg154,
 z168 := Tryz.sizeOf154,
 v168 := Tryz.zeroValue154,
 t171 := Tryz.underlying166,
 a171 := Tryz.isAgg166,
 z171 := Tryz.sizeOf166,
 v171 := Tryz.zeroValue166,
 t173 := Tryz.underlying169,
 a173 := Tryz.isAgg169,
 z173 := Tryz.sizeOf169,
 v173 := Tryz.zeroValue169,
 t175 := Tryz.underlying159,
 a175 := Tryz.isAgg159,
 z175 := Tryz.sizeOf159,
 v175 := Tryz.zeroValue159,
 t210 := Tryz.underlying164,
 a210 := Tryz.isAgg164,
 z210 := Tryz.sizeOf164,
 v210 := Tryz.zeroValue164,
 t212 := Tryz.underlying177,
 a212 := Tryz.isAgg177,
 z212 := Tryz.sizeOf177,
 v212 := Tryz.zeroValue177,
 t213 := Tryz.underlying179,
 a213 := Tryz.isAgg179,
 z213 := Tryz.sizeOf179,
 t232 := Tryz.underlying182,
 a232 := Tryz.isAgg182,
 z232 := Tryz.sizeOf182,
 v232 := Tryz.zeroValue182,
 t233 := Tryz.underlying183,
 a233 := Tryz.isAgg183,
 z233 := Tryz.sizeOf183,
 v233 := Tryz.zeroValue183,
 g15 := by kernel_rfl,
 g16 := by kernel_rfl,
 g17 := by kernel_rfl,
 g18 := by kernel_rfl,
 g19 := by kernel_rfl,
 t80 := Tryz.underlying139,
 a80 := Tryz.isAgg139,
 z80 := Tryz.sizeOf139,
 v80 := Tryz.zeroValue139,
 i0 := by kernel_rfl,
 i2 := by kernel_rfl,
 i3 := by kernel_rfl,
 i4 := by kernel_rfl,
 i5 := by kernel_rfl,
 i9 := by kernel_rfl,
 i20 := by kernel_rfl,
 i21 := by kernel_rfl,
 i37 := by kernel_rfl,
 i46 := by kernel_rfl,
 i51 := by kernel_rfl,
 i53 := by kernel_rfl,
 i75 := by kernel_rfl,
 i76 := by kernel_rfl,
 i80 := by kernel_rfl,
 i85 := by kernel_rfl,
 i127 := by kernel_rfl,
 i143 := by kernel_rfl,
 i145 := by kernel_rfl,
 i167 := by kernel_rfl,
 i168 := by kernel_rfl,
 i171 := by kernel_rfl,
 i173 := by kernel_rfl,
 i175 := by kernel_rfl,
 i210 := by kernel_rfl,
 i212 := by kernel_rfl,
 i232 := by kernel_rfl,
 i233 := by kernel_rfl,
 m15 := by kernel_rfl,
 m16 := by kernel_rfl,
 m17 := by kernel_rfl,
 m18 := by kernel_rfl,
 m19 := by kernel_rfl,
 c0 := by kernel_rfl,
 c2 := by kernel_rfl,
 c3 := by kernel_rfl,
 c4 := by kernel_rfl,
 c5 := by kernel_rfl,
 c9 := by kernel_rfl,
 c20 := by kernel_rfl,
 c21 := by kernel_rfl,
 c37 := by kernel_rfl,
 c46 := by kernel_rfl,
 c51 := by kernel_rfl,
 c53 := by kernel_rfl,
 c75 := by kernel_rfl,
 c76 := by kernel_rfl,
 c80 := by kernel_rfl,
 c85 := by kernel_rfl,
 c127 := by kernel_rfl,
 c143 := by kernel_rfl,
 c145 := by kernel_rfl,
 c167 := by kernel_rfl,
 c168 := by kernel_rfl,
 c171 := by kernel_rfl,
 c173 := by kernel_rfl,
 c175 := by kernel_rfl,
 c210 := by kernel_rfl,
 c212 := by kernel_rfl,
 c213 := by kernel_rfl,
 c232 := by kernel_rfl,
 c233 := by kernel_rfl }

def itoaD_ren : Go.Shelf.Ren := ⟨fun | 171 => 106 | 243 => 113 | 246 => 120 | 283 => 124 | 284 => 125 | 285 => 126 | 286 => 127 | 129 => 131 | 317 => 130 | 318 => 132 | 319 => 133 | 320 => 134 | 337 => 135 | 338 => 136 | n => n, fun | 3 => 3 | 9 => 9 | 2 => 2 | 4 => 4 | 171 => 166 | 0 => 0 | 53 => 158 | 37 => 151 | 5 => 5 | 173 => 169 | 212 => 177 | 51 => 178 | 20 => 20 | 213 => 179 | 46 => 161 | 232 => 182 | 233 => 183 | n => n, fun | 17 => 2 | 18 => 3 | 19 => 4 | n => n⟩
theorem itoaD : Go.Proofs.LaysM.n171 Tryz.prog itoaD_ren := {
 mixed := by kernel_rfl,
 f129 := Tryz.func131.trans (congrArg some (by kernel_rfl)),
 f171 := Tryz.func106.trans (congrArg some (by kernel_rfl)),
 f243 := Tryz.func113.trans (congrArg some (by kernel_rfl)),
 f246 := Tryz.func120.trans (congrArg some (by kernel_rfl)),
 f283 := Tryz.func124.trans (congrArg some (by kernel_rfl)),
 f284 := Tryz.func125.trans (congrArg some (by kernel_rfl)),
 f285 := Tryz.func126.trans (congrArg some (by kernel_rfl)),
 f286 := Tryz.func127.trans (congrArg some (by kernel_rfl)),
 f317 := Tryz.func130.trans (congrArg some (by kernel_rfl)),
 f318 := Tryz.func132.trans (congrArg some (by kernel_rfl)),
 f319 := Tryz.func133.trans (congrArg some (by kernel_rfl)),
 f320 := Tryz.func134.trans (congrArg some (by kernel_rfl)),
 f337 := Tryz.func135.trans (congrArg some (by kernel_rfl)),
 f338 := Tryz.func136.trans (congrArg some (by kernel_rfl)),
 t0 := Tryz.underlying0,
 a0 := Tryz.isAgg0,
 z0 := Tryz.sizeOf0,
 v0 := Tryz.zeroValue0,
 t2 := Tryz.underlying2,
 a2 := Tryz.isAgg2,
 z2 := Tryz.sizeOf2,
 v2 := Tryz.zeroValue2,
 t3 := Tryz.underlying3,
 a3 := Tryz.isAgg3,
 z3 := Tryz.sizeOf3,
 v3 := Tryz.zeroValue3,
 t4 := Tryz.underlying4,
 a4 := Tryz.isAgg4,
 z4 := Tryz.sizeOf4,
 v4 := Tryz.zeroValue4,
 t5 := Tryz.underlying5,
 a5 := Tryz.isAgg5,
 z5 := Tryz.sizeOf5,
 v5 := Tryz.zeroValue5,
 t9 := Tryz.underlying9,
 a9 := Tryz.isAgg9,
 z9 := Tryz.sizeOf9,
 v9 := Tryz.zeroValue9,
 t20 := Tryz.underlying20,
 a20 := Tryz.isAgg20,
 z20 := Tryz.sizeOf20,
 v20 := Tryz.zeroValue20,
 t37 := Tryz.underlying151,
 a37 := Tryz.isAgg151,
 z37 := Tryz.sizeOf151,
 v37 := Tryz.zeroValue151,
 t46 := Tryz.underlying161,
 a46 := Tryz.isAgg161,
 z46 := Tryz.sizeOf161,
 v46 := Tryz.zeroValue161,
 t51 := Tryz.underlying178,
 a51 := Tryz.isAgg178,
 z51 := Tryz.sizeOf178,
 v51 := Tryz.zeroValue178,
 t53 := Tryz.underlying158,
 a53 := Tryz.isAgg158,
 z53 := Tryz.sizeOf158,
 v53 := Tryz.zeroValue158,
 t171 := Tryz.underlying166,
 a171 := Tryz.isAgg166,
 z171 := Tryz.sizeOf166,
 v171 := Tryz.zeroValue166,
 t173 := Tryz.underlying169,
 a173 := Tryz.isAgg169,
 z173 := Tryz.sizeOf169,
 v173 := Tryz.zeroValue169,
 t212 := Tryz.underlying177,
 a212 := Tryz.isAgg177,
 z212 := Tryz.sizeOf177,
 v212 := Tryz.zeroValue177,
 t213 := Tryz.underlying179,
 a213 := Tryz.isAgg179,
 z213 := Tryz.sizeOf179,
 t232 := Tryz.underlying182,
 a232 := Tryz.isAgg182,
 z232 := Tryz.sizeOf182,
 v232 := Tryz.zeroValue182,
 t233 := Tryz.underlying183,
 a233 := Tryz.isAgg183,
 z233 := Tryz.sizeOf183,
 v233 := Tryz.zeroValue183,
 g17 := by kernel_rfl,
 g18 := by kernel_rfl,
 g19 := by kernel_rfl,
 i0 := by kernel_rfl,
 i2 := by kernel_rfl,
 i3 := by kernel_rfl,
 i4 := by kernel_rfl,
 i5 := by kernel_rfl,
 i9 := by kernel_rfl,
 i20 := by kernel_rfl,
 i37 := by kernel_rfl,
 i46 := by kernel_rfl,
 i51 := by kernel_rfl,
 i53 := by kernel_rfl,
 i171 := by kernel_rfl,
 i173 := by kernel_rfl,
 i212 := by kernel_rfl,
 i232 := by kernel_rfl,
 i233 := by kernel_rfl,
 m17 := by kernel_rfl,
 m18 := by kernel_rfl,
 m19 := by kernel_rfl }

end Go.Proofs.YtomppblgalepjaaGreatDoor

/- The program's number (layer 14). -/
namespace Go.Proofs.YtomppblgalepjaaGreatDoor
open Go.RowKit Go.Lib
set_option linter.unusedVariables false
theorem atoi14 (s : ByteArray) (hs : s.size ≤ 1000000) (w : World) (hv : LV w) : Calls Tryz.prog 105 #[.string s] w fun e w' => Below w.heap.size w w' ∧ ((∃ v, atoiAll s.data.toList = .ok v ∧ e = .returned (.tuple #[.int .i64 v, .nilIface])) ∨ ((∀ v, atoiAll s.data.toList ≠ .ok v) ∧ ∃ x tp p, e = .returned (.tuple #[.int .i64 x, .iface tp p]))) := by
 rcases h : atoiAll s.data.toList with v | _ | _
 ·refine (Any.strconv_Atoi_ok atoiD s (by omega) v h w).mono ?_
  rintro e w' ⟨rfl, hw⟩
  refine ⟨?_, .inl ⟨v, rfl, rfl⟩⟩
  rcases hw with rfl | ⟨t, rfl⟩
  ·exact Below.refl _ _
  ·exact bytesWorld_below _ _ _
 ·obtain ⟨⟨tp, p, h1⟩, _⟩ := hv
  refine (Any.strconv_Atoi_syntax_var atoiD s (by omega) h tp p w h1).mono ?_
  rintro e w' ⟨N, rfl, _, _, hb⟩
  exact ⟨hb, .inr ⟨fun v h => (by cases h), _, _, _, rfl⟩⟩
 ·obtain ⟨_, ⟨tp, p, h1⟩, _⟩ := hv
  refine (Any.strconv_Atoi_range_var atoiD s (by omega) h tp p w h1).mono ?_
  rintro e w' ⟨N, rfl, _, _, hb⟩
  exact ⟨hb, .inr ⟨fun v h => (by cases h), _, _, _, rfl⟩⟩
theorem itoa14 (n : Int) (h0 : -9223372036854775808 ≤ n) (h1 : n ≤ 9223372036854775807) (w : World) (hv : LV w) : Calls Tryz.prog 106 #[.int .i64 n] w fun e w' => e = .returned (.string ⟨(itoa n).toArray⟩) ∧ Below w.heap.size w w' := by
 refine (Any.strconv_Itoa itoaD n h0 h1 w hv.2.2).mono ?_
 rintro e w' ⟨rfl, k, os, rfl⟩
 exact ⟨rfl, below_grow _ w (Nat.le_refl _) k os⟩
def nmP (l : List Int) : Int × Bool := if numB l = true then (valN l, true) else (0, false)
theorem atoi_bd {l : List UInt8} {v : Int} (h : atoiAll l = .ok v) : -9223372036854775808 ≤ v ∧ v ≤ 9223372036854775807 := atoiAll_bounds h
theorem str_is {l : List UInt8} {s : ByteArray} (h : l = s.data.toList) : (⟨l.toArray⟩ : ByteArray) = s := by
 subst h
 rfl
set_option maxHeartbeats 4000000 in
theorem number14P (s : ByteArray) (hs : s.size ≤ 1000000) (w : World) (hv : LV w) : Calls Tryz.prog 99 #[.string s] w fun e w' => e = .returned (.tuple #[.int .i64 (nmP (bytesL s)).1, .bool (nmP (bytesL s)).2]) ∧ Below w.heap.size w w' := by
 have HV := hide hv
 have HQ : Hid (bytesL s = bz s.data.toList) := rfl
 rcases hn : numB (bytesL s) with _ | _
 ·have HR : Hid (nmP (bytesL s) = (0, false)) := by unfold Hid nmP; rw [if_neg (by rw [hn]; decide)]
  rw [HQ.out] at hn
  have HN := hide (num_not hn)
  clear hn
  by_cases hok : ∃ v, atoiAll s.data.toList = .ok v
  ·obtain ⟨v, hok⟩ := hok
   have hbd := atoi_bd hok
   have HA : Hid (∀ W, LV W → Calls Tryz.prog 105 #[.string s] W fun e w' => e = .returned (.tuple #[.int .i64 v, .nilIface]) ∧ Below W.heap.size W w') := fun W hW => by
    refine (atoi14 s hs W hW).mono ?_
    rintro e w' ⟨hb, ⟨x, hx, rfl⟩ | ⟨hx, _⟩⟩
    ·rw [hok] at hx
     cases hx
     exact ⟨rfl, hb⟩
    ·exact absurd hok (hx v)
   have HI := hide (fun W (hW : LV W) => itoa14 v hbd.1 hbd.2 W hW)
   have HT : Hid (∀ T : ByteArray, T = ⟨(itoa v).toArray⟩ → T = s → v < -9999 ∨ 9999 < v) := fun T h1 h2 => by
    subst h1
    by_cases h3 : v < -9999 ∨ 9999 < v
    ·exact h3
    ·exact absurd (by rw [← h2]) (HN.out v (by omega) (by omega))
   generalize (⟨(itoa v).toArray⟩ : ByteArray) = T at HI HT
   replace HT := hide (HT.out T rfl)
   have hq := eqK T s
   clear hok hbd HN HQ
   by_cases hts : T = s
   ·have h3 := HT.out hts
    subst hts
    rcases h3 with h3 | h3
    ·go_enter Tryz.func99, Tryz.ntmps99
     go_wp2_with (first | (go_at_call 105; refine (HA.out _ HV.out).mono ?_; rintro e w1 ⟨rfl, hb⟩; have HB := hide hb; have HV1 := hide (HV.out.below hb); clear hb) | (go_at_call 106; refine (HI.out _ HV1.out).mono ?_; rintro e w2 ⟨rfl, hb⟩; replace HB := hide (bel_next HB.out hb); clear hb))
     go_ret2
     exact ⟨by rw [HR.out]; rfl, HB.out⟩
    ·have h4 : ¬ v < -9999 := by omega
     go_enter Tryz.func99, Tryz.ntmps99
     go_wp2_with (first | (go_at_call 105; refine (HA.out _ HV.out).mono ?_; rintro e w1 ⟨rfl, hb⟩; have HB := hide hb; have HV1 := hide (HV.out.below hb); clear hb) | (go_at_call 106; refine (HI.out _ HV1.out).mono ?_; rintro e w2 ⟨rfl, hb⟩; replace HB := hide (bel_next HB.out hb); clear hb))
     go_ret2
     exact ⟨by rw [HR.out]; rfl, HB.out⟩
   ·rw [decide_eq_false hts] at hq
    go_enter Tryz.func99, Tryz.ntmps99
    go_wp2_with (first | (go_at_call 105; refine (HA.out _ HV.out).mono ?_; rintro e w1 ⟨rfl, hb⟩; have HB := hide hb; have HV1 := hide (HV.out.below hb); clear hb) | (go_at_call 106; refine (HI.out _ HV1.out).mono ?_; rintro e w2 ⟨rfl, hb⟩; replace HB := hide (bel_next HB.out hb); clear hb))
    go_ret2
    exact ⟨by rw [HR.out]; rfl, HB.out⟩
  ·have HA : Hid (∀ W, LV W → Calls Tryz.prog 105 #[.string s] W fun e w' => ∃ x tp p, e = .returned (.tuple #[.int .i64 x, .iface tp p]) ∧ Below W.heap.size W w') := fun W hW => by
    refine (atoi14 s hs W hW).mono ?_
    rintro e w' ⟨hb, ⟨x, hx, rfl⟩ | ⟨hx, x, tp, p, rfl⟩⟩
    ·exact absurd ⟨x, hx⟩ hok
    ·exact ⟨x, tp, p, rfl, hb⟩
   clear hok HN HQ
   go_enter Tryz.func99, Tryz.ntmps99
   go_wp2_with (go_at_call 105; refine (HA.out _ HV.out).mono ?_; rintro e w1 ⟨x, tp, p, rfl, hb⟩; have HB := hide hb; clear hb)
   go_ret2
   exact ⟨by rw [HR.out]; rfl, HB.out⟩
 ·have HR : Hid (nmP (bytesL s) = (valN (bytesL s), true)) := by unfold Hid nmP; rw [if_pos hn]
  rw [HQ.out] at hn
  have q := num_yes hn
  rw [← HQ.out] at q
  obtain ⟨v, hvv⟩ : ∃ v, valN (bytesL s) = v := ⟨_, rfl⟩
  rw [hvv] at q HR
  obtain ⟨q1, q2, q3, q4⟩ := q
  have HA : Hid (∀ W, LV W → Calls Tryz.prog 105 #[.string s] W fun e w' => e = .returned (.tuple #[.int .i64 v, .nilIface]) ∧ Below W.heap.size W w') := fun W hW => by
   refine (atoi14 s hs W hW).mono ?_
   rintro e w' ⟨hb, ⟨x, hx, rfl⟩ | ⟨hx, _⟩⟩
   ·rw [q1] at hx
    cases hx
    exact ⟨rfl, hb⟩
   ·exact absurd q1 (hx v)
  have HI : Hid (∀ W, LV W → Calls Tryz.prog 106 #[.int .i64 v] W fun e w' => e = .returned (.string s) ∧ Below W.heap.size W w') := fun W hW => by
   have k := itoa14 v (by omega) (by omega) W hW
   rw [str_is q2] at k
   exact k
  have h3 : ¬ v < -9999 := by omega
  have h4 : ¬ 9999 < v := by omega
  clear hn hvv q1 q2 q3 q4 HQ
  go_enter Tryz.func99, Tryz.ntmps99
  go_wp2_with (first | (go_at_call 105; refine (HA.out _ HV.out).mono ?_; rintro e w1 ⟨rfl, hb⟩; have HB := hide hb; have HV1 := hide (HV.out.below hb); clear hb) | (go_at_call 106; refine (HI.out _ HV1.out).mono ?_; rintro e w2 ⟨rfl, hb⟩; replace HB := hide (bel_next HB.out hb); clear hb))
  go_ret2
  exact ⟨by rw [HR.out]; rfl, HB.out⟩
end Go.Proofs.YtomppblgalepjaaGreatDoor

