/- slices.Insert of an entry into a set of the call's own (layer 9). -/
import Derived.Test.YtiodlpoeifmldaaZ10
namespace Go.Proofs.Ytiodlpoeifmldaa
open Go.RowKit Go.Lib
set_option linter.unusedVariables false
theorem Try.sizeEnt : (Try.prog.info? 48).map (·.size) = some 3 := by kernel_rfl
/-- What comes of a set when an entry is put between. -/
theorem row_ins {C : List Value} {xs : List Ne} {x : Ne} {i n : Nat} (hi : i ≤ n) (hn : xs.length = n) (h : C.take (n * 3) = flN xs) (hc : (n + 1) * 3 ≤ C.length) :
    (((C.take ((i + 1) * 3) ++ flN (xs.drop i) ++ C.drop ((i + 1) * 3 + (flN (xs.drop i)).length)).take (i * 3) ++ encN x ++ (C.take ((i + 1) * 3) ++ flN (xs.drop i) ++ C.drop ((i + 1) * 3 + (flN (xs.drop i)).length)).drop (i * 3 + (encN x).length))).take ((n + 1) * 3) = flN (xs.take i ++ x :: xs.drop i) := by
  have e0 : (flN (xs.drop i)).length = (n - i) * 3 := by rw [flN_len, List.length_drop, hn]
  have e1 : (C.take ((i + 1) * 3)).length = (i + 1) * 3 := by rw [List.length_take]; omega
  have e2 : (C.take ((i + 1) * 3) ++ flN (xs.drop i) ++ C.drop ((i + 1) * 3 + (flN (xs.drop i)).length)).take (i * 3) = flN (xs.take i) := by
    rw [List.append_assoc, List.take_append_of_le_length (by rw [e1]; omega), List.take_take, Nat.min_eq_left (by omega), flN_take xs i (by omega), ← h, List.take_take, Nat.min_eq_left (by omega)]
  have e3 : (C.take ((i + 1) * 3) ++ flN (xs.drop i) ++ C.drop ((i + 1) * 3 + (flN (xs.drop i)).length)).drop (i * 3 + (encN x).length) = flN (xs.drop i) ++ C.drop ((i + 1) * 3 + (flN (xs.drop i)).length) := by
    rw [List.append_assoc, List.drop_append_of_le_length (by rw [e1, encN_len]; omega), List.drop_eq_nil_of_le (by rw [e1, encN_len]; omega), List.nil_append]
  have e4 : (flN (xs.take i)).length = i * 3 := by rw [flN_len, List.length_take]; omega
  rw [e2, e3, ← List.append_assoc, List.take_append_of_le_length (by simp only [List.length_append, e4, e0, encN_len]; omega), List.take_of_length_le (by simp only [List.length_append, e4, e0, encN_len]; omega), flN_app, List.append_assoc]
  rfl
theorem rels_ins {w : World} {xs : List Ne} {es : List En} {x : Ne} {e : En} (h : Rels w xs es) (hx : RelN w x e) (i : Nat) : Rels w (xs.take i ++ x :: xs.drop i) (es.take i ++ e :: es.drop i) :=
  (h.take i).app ((Rels.one hx).app (h.drop i))
set_option maxHeartbeats 4000000 in
set_option maxRecDepth 4000 in
/-- There is room, and the place is not the end. -/
theorem ins_shift (g n c i vb : Nat) (C : Array Value) (xs : List Ne) (x : Ne) (w : World) (hi : i < n) (hn : xs.length = n) (hC : BX w g C 48) (hs : C.size = c * 3) (ht : C.toList.take (n * 3) = flN xs) (hroom : n + 1 ≤ c) (hc : c ≤ 9223372036854775807) (hvb : vb ≠ g) (hv : BX w vb (encN x).toArray 48) :
    Calls Try.prog 60 #[.slice (some ⟨g, 0, none⟩) n c, .int .i64 i, .slice (some ⟨vb, 0, none⟩) 1 1] w fun e w' =>
      e = .returned (.slice (some ⟨g, 0, none⟩) (n + 1) c) ∧ w.grownBy w' (some g) ∧ ∃ C', BX w' g C' 48 ∧ C'.size = c * 3 ∧ C'.toList.take ((n + 1) * 3) = flN (xs.take i ++ x :: xs.drop i) := by
  have e0 : (flN (xs.drop i)).length = (n - i) * 3 := by rw [flN_len, List.length_drop, hn]
  have hmin : Nat.min (n + 1 - i) (n - i) = n - i := by simp only [Nat.min_def]; split <;> omega
  have hmin2 : Nat.min 1 (n + 1 - i) = 1 := by simp only [Nat.min_def]; split <;> omega
  obtain ⟨C1, hC1⟩ : ∃ C1 : Array Value, C1 = (C.toList.take ((i + 1) * 3) ++ flN (xs.drop i) ++ C.toList.drop ((i + 1) * 3 + (flN (xs.drop i)).length)).toArray := ⟨_, rfl⟩
  have hs1 : C1.size = c * 3 := by
    rw [hC1]
    simp only [List.size_toArray, List.length_append, List.length_take, List.length_drop, e0, Array.length_toList, hs]
    omega
  obtain ⟨C2, hC2⟩ : ∃ C2 : Array Value, C2 = (C1.toList.take (i * 3) ++ encN x ++ C1.toList.drop (i * 3 + (encN x).length)).toArray := ⟨_, rfl⟩
  have hs2 : C2.size = c * 3 := by
    rw [hC2]
    simp only [List.size_toArray, List.length_append, List.length_take, List.length_drop, encN_len, Array.length_toList, hs1]
    omega
  have ht2 : C2.toList.take ((n + 1) * 3) = flN (xs.take i ++ x :: xs.drop i) := by
    have := row_ins (C := C.toList) (x := x) (Nat.le_of_lt hi) hn ht (by rw [Array.length_toList, hs]; omega)
    rw [hC2, hC1]
    exact this
  have hcell : ∀ j v, (flN (xs.drop i))[j]? = some v → w.cell? ((⟨g, i * 3, none⟩ : Addr).add j) = some v := by
    intro j v hj
    rw [addr_add]
    refine hC.cell _ _ ?_
    rw [flN_drop xs i (by omega), ← ht, List.getElem?_drop, List.getElem?_take] at hj
    split at hj
    · rwa [← Array.getElem?_toList]
    · cases hj
  have hcp1 : ∀ ty dc sc, (Builtin.copy_ #[22, 22] ty #[.slice (some ⟨g, (i + 1) * 3, none⟩) (n - i) dc, .slice (some ⟨g, i * 3, none⟩) (n + 1 - i) sc]).run Try.prog w.drew = .ok (goInt ((n - i : Nat) : Int)) (w.drew.setRow g C1) := fun ty dc sc => by
    rw [hC1]
    exact run_copy_rowK w.drew _ _ ty 48 g ((i + 1) * 3) _ dc ⟨g, i * 3, none⟩ _ sc 3 (n - i) C 48 (flN (xs.drop i)) Try.underlying22 Try.sizeEnt hC hmin e0 hcell (by rw [e0, hs]; omega) (flatR_one encN encN_one _)
  have hB1 : BX (w.drew.setRow g C1) g C1 48 := setRow_heap w.drew g C C1 _ _ hC
  have hV1 : BX (w.drew.setRow g C1) vb (encN x).toArray 48 := by unfold BX; rw [setRow_other _ _ _ _ hvb]; exact hv
  have hG1 : w.grownBy (w.drew.setRow g C1) (some g) := grown_trans (grown_drew w _) (grown_setRow _ _ _)
  obtain ⟨W1, hW1⟩ : ∃ W1, W1 = w.drew.setRow g C1 := ⟨_, rfl⟩
  rw [← hW1] at hcp1 hB1 hV1 hG1
  have hcp2 : ∀ ty dc, (Builtin.copy_ #[22, 22] ty #[.slice (some ⟨g, i * 3, none⟩) (n + 1 - i) dc, .slice (some ⟨vb, 0, none⟩) 1 1]).run Try.prog W1 = .ok (goInt 1) (W1.setRow g C2) := fun ty dc => by
    rw [hC2]
    exact run_copy_rowK W1 _ _ ty 48 g (i * 3) _ dc ⟨vb, 0, none⟩ _ 1 3 1 C1 48 (encN x) Try.underlying22 Try.sizeEnt hB1 hmin2 rfl (fun j v hj => by
      rw [addr_add, Nat.zero_add]
      exact hV1.cell _ _ (by rwa [List.getElem?_toArray])) (by rw [encN_len, hs1]; omega) (encN_one x)
  have hB2 : BX (W1.setRow g C2) g C2 48 := setRow_heap W1 g C1 C2 _ _ hB1
  have hG2 : w.grownBy (W1.setRow g C2) (some g) := grown_trans hG1 (grown_setRow _ _ _)
  obtain ⟨W2, hW2⟩ : ∃ W2, W2 = W1.setRow g C2 := ⟨_, rfl⟩
  rw [← hW2] at hcp2 hB2 hG2
  have hov : ∀ lb cb, (callFunc 80 #[.slice (some ⟨vb, 0, none⟩) 1 1, .slice (some ⟨g, (i + 1) * 3, none⟩) lb cb]).run Try.prog w = .ok (.value (.bool false)) w := fun lb cb => by
    rw [run_callFunc_extern Try.func80 (by kernel_rfl) (by kernel_rfl) (by kernel_rfl) (e := Extern.SlicesOverlaps.overlaps #[22, 22] #[4]) (by kernel_rfl),
      Lib.run_overlaps_apart w 22 4 48 Try.underlying22 3 (fun w => by kernel_rfl) ⟨vb, 0, none⟩ ⟨g, (i + 1) * 3, none⟩ 1 1 lb cb hvb 48 48 3 (c * 3) (by unfold World.shape?; unfold BX at hv; rw [hv]; rfl) (by unfold World.shape?; unfold BX at hC; rw [hC, ← hs]) (by omega) (hv.free 0) (hv.free 3)]
    rfl
  have HR := hide (show w.grownBy W2 (some g) ∧ ∃ C', BX W2 g C' 48 ∧ C'.size = c * 3 ∧ C'.toList.take ((n + 1) * 3) = flN (xs.take i ++ x :: xs.drop i) from ⟨hG2, C2, hB2, hs2, ht2⟩)
  clear hG2 hB2 hs2 ht2 hG1 hB1 hV1 hC1 hC2 hs1 hcell e0 hmin hmin2 hW1 hW2 hC hv hs ht hn
  have hz2 : ¬ ((i : Int) = (n : Int)) := by omega
  have hw1 : IntKind.i64.wrap ((i : Int) + 1) = (i : Int) + 1 := by rw [IntKind.wrap_i64]; omega
  have hw2 : IntKind.i64.wrap ((n : Int) + 1) = (n : Int) + 1 := by rw [IntKind.wrap_i64]; omega
  have hb1 : (0 : Int) ≤ (i : Int) + 1 := by omega
  have hin : i ≤ n := by omega
  have htn : ((i : Int) + 1).toNat = i + 1 := by omega
  have hb2 : ¬ (c = i + 1) := by omega
  have hb3 : (i : Int) ≤ (n : Int) + 1 := by omega
  have hb4 : ¬ (c = i) := by omega
  have mixed : Try.prog.follows Departure.mixedOrders = true := by kernel_rfl
  go_enter Try.func60, Try.ntmps60
  go_wp2_with (simp only [hov])
  go_region_law_o (refine step_copy_runI rfl _ _ 22 22 rfl _ _ (by simp [Act.eval, Act.put]) (by simp [Act.eval, Act.put]) (hcp1 _ _ _) ?_)
  go_wp2_with (at_builtin; refine wpList_copy_runI _ rfl _ _ 22 22 rfl _ _ rfl rfl (hcp2 _ _) ?_)
  go_ret
  exact ⟨rfl, HR.out⟩
theorem zero_len (z : Array Value) (n : Nat) : (Builtin.zeroCells z n).size = n * z.size := by simp [Builtin.zeroCells]
theorem row_grow {R : List Value} {xs : List Ne} {x : Ne} {i n : Nat} (hi : i ≤ n) (hn : xs.length = n) (h : R.take (i * 3) = flN (xs.take i)) (hc : (n + 1) * 3 ≤ R.length) :
    ((R.take (i * 3) ++ encN x ++ R.drop (i * 3 + (encN x).length)).take ((i + 1) * 3) ++ flN (xs.drop i) ++ (R.take (i * 3) ++ encN x ++ R.drop (i * 3 + (encN x).length)).drop ((i + 1) * 3 + (flN (xs.drop i)).length)).take ((n + 1) * 3) = flN (xs.take i ++ x :: xs.drop i) := by
  have e0 : (flN (xs.drop i)).length = (n - i) * 3 := by rw [flN_len, List.length_drop, hn]
  have e4 : (flN (xs.take i)).length = i * 3 := by rw [flN_len, List.length_take]; omega
  have e2 : (R.take (i * 3) ++ encN x ++ R.drop (i * 3 + (encN x).length)).take ((i + 1) * 3) = flN (xs.take i) ++ encN x := by
    rw [h, List.take_append_of_le_length (by rw [List.length_append, e4, encN_len]; omega), List.take_of_length_le (by rw [List.length_append, e4, encN_len]; omega)]
  rw [e2, List.take_append_of_le_length (by simp only [List.length_append, e4, e0, encN_len]; omega), List.take_of_length_le (by simp only [List.length_append, e4, e0, encN_len]; omega), flN_app, List.append_assoc]
  rfl
set_option maxHeartbeats 4000000 in
set_option maxRecDepth 4000 in
/-- There is no room, and the place is not the end. -/
theorem ins_grow (g n c i vb : Nat) (C : Array Value) (xs : List Ne) (x : Ne) (w : World) (hi : i < n) (hn : xs.length = n) (hC : BX w g C 48) (hs : C.size = c * 3) (ht : C.toList.take (n * 3) = flN xs) (hnc : n ≤ c) (hroom : c < n + 1) (hbig : n ≤ 100000) (hv : BX w vb (encN x).toArray 48) :
    Calls Try.prog 60 #[.slice (some ⟨g, 0, none⟩) n c, .int .i64 i, .slice (some ⟨vb, 0, none⟩) 1 1] w fun e w' =>
      ∃ G, e = .returned (.slice (some ⟨w.heap.size, 0, none⟩) (n + 1) G) ∧ n + 1 ≤ G ∧ G ≤ maxLen ∧ w.grownBy w' none ∧ ∃ C', BX w' w.heap.size C' 48 ∧ C'.size = G * 3 ∧ C'.toList.take ((n + 1) * 3) = flN (xs.take i ++ x :: xs.drop i) := by
  obtain ⟨i0, hi0, hz0, hzs, hzb⟩ := info_parts Try.infoEnt
  have e0 : (flN (xs.drop i)).length = (n - i) * 3 := by rw [flN_len, List.length_drop, hn]
  have e4 : (flN (xs.take i)).length = i * 3 := by rw [flN_len, List.length_take]; omega
  have hkk : (n : Int) + 1 - (i : Int) = ((n + 1 - i : Nat) : Int) := by omega
  have hik : i + (n + 1 - i) = n + 1 := by omega
  have hold : (Builtin.firstCells i0.size i (.slice (some ⟨g, 0, none⟩) i c)).run Try.prog w.drew = .ok (flN (xs.take i)).toArray w.drew := by
    rw [hzs]
    refine run_firstCells_some w.drew 3 i ⟨g, 0, none⟩ i c (flN (xs.take i)) (by rw [e4]) (fun j v hj => ?_)
    rw [addr_add, Nat.zero_add]
    refine hC.cell _ _ ?_
    rw [flN_take xs i (by omega), ← ht, List.take_take, Nat.min_eq_left (by omega), List.getElem?_take] at hj
    split at hj
    · rwa [← Array.getElem?_toList]
    · cases hj
  obtain ⟨G, hG⟩ : ∃ G, G = grownCap w (n + 1) c 48 := ⟨_, rfl⟩
  have hGn : n + 1 ≤ G := by rw [hG]; exact grownCap_ge w _ _ _
  have hGm : G ≤ maxLen := by rw [hG]; exact grownCap_le_maxLen w (n + 1) c _ (by unfold maxLen; omega)
  obtain ⟨ROW, hROW⟩ : ∃ ROW : Array Value, ROW = (flN (xs.take i)).toArray ++ Builtin.zeroCells (Value.agg #[.string ⟨#[]⟩, .slice none 0 0, .slice none 0 0]).cells (n + 1 - i) ++ Builtin.zeroCells (Value.agg #[.string ⟨#[]⟩, .slice none 0 0, .slice none 0 0]).cells (G - (n + 1)) := ⟨_, rfl⟩
  have hrz : ∀ ty, (Builtin.append_ #[22, 3] ty #[.slice (some ⟨g, 0, none⟩) i c, .int .i64 ((n : Int) + 1 - (i : Int))]).run Try.prog w = .ok (.slice (some ⟨w.heap.size, 0, none⟩) (n + 1) G) (w.drew.alloc (.cells ROW 48)) := fun ty => by
    have h := Lib.run_append_grow_zeros w 22 3 ty 48 i0 _ .i64 .i64 Try.underlying22 Try.underlying3 hi0 hz0 (some ⟨g, 0, none⟩) i c (flN (xs.take i)) hold (n + 1 - i) (by omega) (by omega) (by omega) (by omega) (by rw [hzb]; omega) (by rw [hzb, hik]; exact growslice_fits hroom (by omega))
    rw [hik] at h
    rw [hkk, hROW, hG]
    exact h
  have hRs : ROW.size = G * 3 := by
    rw [hROW]
    simp only [Array.size_append, zero_len, List.size_toArray, e4]
    simp only [Value.cells, List.size_toArray, List.length_cons, List.length_nil]
    omega
  have hRt : ROW.toList.take (i * 3) = flN (xs.take i) := by
    rw [hROW]
    simp only [Array.toList_append, List.append_assoc]
    rw [List.take_append_of_le_length (by simp only [e4]; omega), List.take_of_length_le (by simp only [e4]; omega)]
  have hmin : Nat.min 1 (n + 1 - i) = 1 := by simp only [Nat.min_def]; split <;> omega
  have hmin2 : Nat.min (n - i) (n - i) = n - i := by simp only [Nat.min_def]; split <;> omega
  have hgw : g < w.heap.size := hC.size
  have hvw : vb < w.heap.size := hv.size
  have hB1 : BX (w.drew.alloc (.cells ROW 48)) w.heap.size ROW 48 := BX.new w.drew _ rfl ROW _
  have hK1 : BX (w.drew.alloc (.cells ROW 48)) g C 48 := BX.alloc (u := w.drew) hC _
  have hV1 : BX (w.drew.alloc (.cells ROW 48)) vb (encN x).toArray 48 := BX.alloc (u := w.drew) hv _
  have hG1 : w.grownBy (w.drew.alloc (.cells ROW 48)) none := grown_trans (grown_drew w _) (grown_alloc _ _ _)
  obtain ⟨W1, hW1⟩ : ∃ W1, W1 = w.drew.alloc (.cells ROW 48) := ⟨_, rfl⟩
  rw [← hW1] at hrz hB1 hK1 hV1 hG1
  obtain ⟨C1, hC1⟩ : ∃ C1 : Array Value, C1 = (ROW.toList.take (i * 3) ++ encN x ++ ROW.toList.drop (i * 3 + (encN x).length)).toArray := ⟨_, rfl⟩
  have hs1 : C1.size = G * 3 := by
    rw [hC1]
    simp only [List.size_toArray, List.length_append, List.length_take, List.length_drop, encN_len, Array.length_toList, hRs]
    omega
  have hcpA : ∀ ty dc, (Builtin.copy_ #[22, 22] ty #[.slice (some ⟨w.heap.size, i * 3, none⟩) (n + 1 - i) dc, .slice (some ⟨vb, 0, none⟩) 1 1]).run Try.prog W1 = .ok (goInt 1) (W1.setRow w.heap.size C1) := fun ty dc => by
    rw [hC1]
    exact run_copy_rowK W1 _ _ ty 48 w.heap.size (i * 3) _ dc ⟨vb, 0, none⟩ _ 1 3 1 ROW 48 (encN x) Try.underlying22 Try.sizeEnt hB1 hmin rfl (fun j v hj => by
      rw [addr_add, Nat.zero_add]
      exact hV1.cell _ _ (by rwa [List.getElem?_toArray])) (by rw [encN_len, hRs]; omega) (encN_one x)
  have hB2 : BX (W1.setRow w.heap.size C1) w.heap.size C1 48 := setRow_heap W1 _ ROW C1 _ _ hB1
  have hK2 : BX (W1.setRow w.heap.size C1) g C 48 := by unfold BX; rw [setRow_other _ _ _ _ (by omega)]; exact hK1
  have hG2 : ∀ j, j < w.heap.size → (W1.setRow w.heap.size C1).heap[j]? = w.heap[j]? := fun j hj => by rw [setRow_other _ _ _ _ (by omega)]; exact hG1.block j hj (by simp)
  have hG2' : (W1.setRow w.heap.size C1).os = w.os ∧ (W1.setRow w.heap.size C1).tape = w.tape ∧ (W1.setRow w.heap.size C1).output = w.output ∧ w.heap.size ≤ (W1.setRow w.heap.size C1).heap.size := ⟨hG1.os, hG1.tape, hG1.output, by simpa using hG1.size⟩
  obtain ⟨W2, hW2⟩ : ∃ W2, W2 = W1.setRow w.heap.size C1 := ⟨_, rfl⟩
  rw [← hW2] at hcpA hB2 hK2 hG2 hG2'
  obtain ⟨C2, hC2⟩ : ∃ C2 : Array Value, C2 = (C1.toList.take ((i + 1) * 3) ++ flN (xs.drop i) ++ C1.toList.drop ((i + 1) * 3 + (flN (xs.drop i)).length)).toArray := ⟨_, rfl⟩
  have hs2 : C2.size = G * 3 := by
    rw [hC2]
    simp only [List.size_toArray, List.length_append, List.length_take, List.length_drop, e0, Array.length_toList, hs1]
    omega
  have ht2 : C2.toList.take ((n + 1) * 3) = flN (xs.take i ++ x :: xs.drop i) := by
    have := row_grow (R := ROW.toList) (x := x) (Nat.le_of_lt hi) hn hRt (by rw [Array.length_toList, hRs]; omega)
    rw [hC2, hC1]
    exact this
  have hcpB : ∀ ty dc sc, (Builtin.copy_ #[22, 22] ty #[.slice (some ⟨w.heap.size, (i + 1) * 3, none⟩) (n - i) dc, .slice (some ⟨g, i * 3, none⟩) (n - i) sc]).run Try.prog W2.drew = .ok (goInt ((n - i : Nat) : Int)) (W2.drew.setRow w.heap.size C2) := fun ty dc sc => by
    rw [hC2]
    exact run_copy_rowK W2.drew _ _ ty 48 w.heap.size ((i + 1) * 3) _ dc ⟨g, i * 3, none⟩ _ sc 3 (n - i) C1 48 (flN (xs.drop i)) Try.underlying22 Try.sizeEnt hB2 hmin2 e0 (fun j v hj => by
      rw [addr_add]
      refine BX.cell (u := W2.drew) hK2 _ _ ?_
      rw [flN_drop xs i (by omega), ← ht, List.getElem?_drop, List.getElem?_take] at hj
      split at hj
      · rwa [← Array.getElem?_toList]
      · cases hj) (by rw [e0, hs1]; omega) (flatR_one encN encN_one _)
  have hB3 : BX (W2.drew.setRow w.heap.size C2) w.heap.size C2 48 := setRow_heap W2.drew _ C1 C2 _ _ hB2
  have hG3 : w.grownBy (W2.drew.setRow w.heap.size C2) none := ⟨hG2'.1, hG2'.2.1, hG2'.2.2.1, by simpa using hG2'.2.2.2, fun j hj _ => by rw [setRow_other _ _ _ _ (by omega)]; exact hG2 j hj⟩
  obtain ⟨W3, hW3⟩ : ∃ W3, W3 = W2.drew.setRow w.heap.size C2 := ⟨_, rfl⟩
  rw [← hW3] at hcpB hB3 hG3
  have HR := hide (show n + 1 ≤ G ∧ G ≤ maxLen ∧ w.grownBy W3 none ∧ ∃ C', BX W3 w.heap.size C' 48 ∧ C'.size = G * 3 ∧ C'.toList.take ((n + 1) * 3) = flN (xs.take i ++ x :: xs.drop i) from ⟨hGn, hGm, hG3, C2, hB3, hs2, ht2⟩)
  unfold maxLen at hGm
  clear hG3 hB3 hs2 ht2 hW3 hC2 hC1 hs1 hG2 hG2' hB2 hK2 hW2 hW1 hB1 hK1 hV1 hG1 hRt hRs hROW hold hkk hik e0 e4 hmin hmin2 hG hi0 hz0 hzs hzb hC hv hs ht hn
  have hz2 : ¬ ((i : Int) = (n : Int)) := by omega
  have hz3 : (c : Int) < (n : Int) + 1 := by omega
  have hw1 : IntKind.i64.wrap ((i : Int) + 1) = (i : Int) + 1 := by rw [IntKind.wrap_i64]; omega
  have hw2 : IntKind.i64.wrap ((n : Int) + 1) = (n : Int) + 1 := by rw [IntKind.wrap_i64]; omega
  have hb1 : (0 : Int) ≤ (i : Int) + 1 := by omega
  have hin : i ≤ n := by omega
  have htn : ((i : Int) + 1).toNat = i + 1 := by omega
  have hb3 : (i : Int) ≤ (n : Int) := by omega
  have hGi : ¬ (G = i) := by omega
  have hGim : ¬ (G = i + 1) := by omega
  have hci : ¬ (c = i) := by omega
  generalize hhs : w.heap.size = hh at *
  clear hhs
  have mixed : Try.prog.follows Departure.mixedOrders = true := by kernel_rfl
  go_enter Try.func60, Try.ntmps60
  go_wp2_with (first
    | (at_builtin; refine Lib.wpList_append_run _ rfl _ _ _ _ rfl _ _ rfl rfl _ _ (hrz _) ?_)
    | (at_builtin; refine wpList_copy_runI _ rfl _ _ 22 22 rfl _ _ rfl rfl (hcpA _ _) ?_))
  go_region_law_o (refine step_copy_runI rfl _ _ 22 22 rfl _ _ (by simp [Act.eval, Act.put]) (by simp [Act.eval, Act.put]) (hcpB _ _ _) ?_)
  go_wp2
  go_ret
  exact ⟨G, rfl, HR.out⟩
end Go.Proofs.Ytiodlpoeifmldaa
