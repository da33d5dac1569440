/-
  awake: the chapter's examples come out as written.
-/
import Derived.Test.YtdcflgblaljdeaaAwake
import Derived.Lib.SlBytesConst
set_option linter.unusedSimpArgs false
namespace Go.Proofs.Ytdcflgblaljdeaa
open Go.RowKit
open Go.Lib (byteCells byteCells_length byteCells_append uvarint uvarint_small uvarint_big)

/-- bytes that were just laid in a block of their own -/
theorem new_is (w : World) (t : TypeId) (fr : Nat × Nat) (l : List UInt8) (n : Nat) (cs : Array Value) (h : cs = (byteCells l).toArray) (hn : l.length = n) :
    IsB (w.alloc (.cells cs t fr)) (some ⟨w.heap.size, 0, none⟩) n n l := by
  refine ⟨hn, Nat.le_refl _, (fun h => by cases h), .inr ⟨w.heap.size, 0, rfl, fun j u hj => ?_⟩⟩
  rw [cell_of_row (w.alloc (.cells cs t fr)) w.heap.size (0 + j) cs t fr (heap_alloc_new w _), h, Nat.zero_add, List.getElem?_toArray, byteCells, List.getElem?_map, hj]
  rfl
theorem bstep {w w1 w2 : World} {o : Obj} (h : Below w.heap.size w w1) (h2 : Below (w1.alloc o).heap.size (w1.alloc o) w2) : Below w.heap.size w w2 :=
  (h.alloc h.size o).trans (h2.mono (by have := h.size; simp; omega))
theorem bstep0 {w w1 w2 : World} (h : Below w.heap.size w w1) (h2 : Below w1.heap.size w1 w2) : Below w.heap.size w w2 := h.trans (h2.mono h.size)

theorem laid_lit (x : Int) (n : Nat) (l : List UInt8) (m : Nat) (cs : Array Value) (w : World) (t : TypeId) (fr : Nat × Nat) (hx : x = (n : Int)) (hn : n < 18446744073709551616) (hl : uvarint n = l) (hcs : cs = (byteCells l).toArray) (hm : l.length = m) :
    Calls Try.prog 81 #[.int .u64 x, .slice (some ⟨w.heap.size, 0, none⟩) m m] (w.alloc (.cells cs t fr)) fun e w' => e = .returned (.bool true) ∧ Below (w.alloc (.cells cs t fr)).heap.size (w.alloc (.cells cs t fr)) w' := by
  subst hx
  exact laid_any n _ m m _ hn (by rw [hl]; exact new_is w t fr l m cs hcs hm)
theorem folds_lit (x u : Int) (k : Nat) (w : World) (hu : u = (k : Int)) (h0 : -9223372036854775808 ≤ x) (h1 : x ≤ 9223372036854775807) (hz : Lib.zigzag x = k) :
    Calls Try.prog 82 #[.int .i64 x, .int .u64 u] w fun e w' => e = .returned (.bool true) ∧ Below w.heap.size w w' := by
  subst hu
  exact folds_any x k w h0 h1 hz
theorem uv127 : uvarint 127 = [127] := uvarint_small (by decide)
theorem uv0 : uvarint 0 = [0] := uvarint_small (by decide)
theorem uv128 : uvarint 128 = [128, 1] := by rw [uvarint_big (by decide), uvarint_small (by decide)]; rfl
theorem uv300 : uvarint 300 = [172, 2] := by rw [uvarint_big (by decide), uvarint_small (by decide)]; rfl
theorem uv2 : uvarint 2 = [2] := uvarint_small (by decide)

theorem blob_lit (l : List UInt8) (m : Nat) (s : List UInt8) (cs : Array Value) (w : World) (t : TypeId) (fr : Nat × Nat) (hl : uvarint m ++ s = l) (hcs : cs = (byteCells s).toArray) (hm : s.length = m) (hb : m ≤ 17592186044416) :
    Calls Try.prog 83 #[.slice none 0 0, .slice (some ⟨w.heap.size, 0, none⟩) m m] (w.alloc (.cells cs t fr)) fun e w' =>
      ∃ A n c, e = .returned (.slice A n c) ∧ (convert 26 9 (.slice A n c)).run Try.prog w' = .ok (.string ⟨l.toArray⟩) w' ∧ Below (w.alloc (.cells cs t fr)).heap.size (w.alloc (.cells cs t fr)) w' :=
  (blob_any none 0 0 [] _ m m s _ (IsB.nil _) (by decide) (new_is w t fr s m cs hcs hm) hb).mono fun e w' h => by
    obtain ⟨v, he, ho, hb⟩ := h
    obtain ⟨A, n, c, rfl, hi⟩ := own_slice ho
    rw [List.nil_append, hl] at hi
    exact ⟨A, n, c, he, str_of w' hi, hb⟩
theorem errorAt_lit (l : List UInt8) (m q : Nat) (x : Int) (cs : Array Value) (w : World) (t : TypeId) (fr : Nat × Nat) (hx : x = (q : Int)) (hq : getU l = (0, 0, q)) (hcs : cs = (byteCells l).toArray) (hm : l.length = m) (hb : m ≤ 100) :
    Calls Try.prog 84 #[.slice (some ⟨w.heap.size, 0, none⟩) m m, .int .i64 0] (w.alloc (.cells cs t fr)) fun e w' => e = .returned (.int .i64 x) ∧ Below (w.alloc (.cells cs t fr)).heap.size (w.alloc (.cells cs t fr)) w' := by
  subst hx
  refine (errorAt_in _ m m 0 q l _ (new_is w t fr l m cs hcs hm) (by omega) (by omega) (by rw [List.drop_zero]; exact hq)).mono ?_
  rintro e w' ⟨rfl, rfl⟩
  exact ⟨rfl, Below.refl _ _⟩

theorem crc_lit (l : List UInt8) (m q : Nat) (x : Int) (cs : Array Value) (w : World) (t : TypeId) (fr : Nat × Nat) (hx : x = (q : Int)) (hq : crc l = q) (hcs : cs = (byteCells l).toArray) (hm : l.length = m) (hb : m ≤ 100) :
    Calls Try.prog 85 #[.slice (some ⟨w.heap.size, 0, none⟩) m m] (w.alloc (.cells cs t fr)).drew fun e w' => e = .returned (.int .u32 x) ∧ Below (w.alloc (.cells cs t fr)).heap.size (w.alloc (.cells cs t fr)) w' := by
  subst hx
  refine (crc_any _ m m l _ (new_is w t fr l m cs hcs hm).drew (by omega)).mono ?_
  rintro e w' ⟨rfl, hb⟩
  exact ⟨by rw [hq], (Below.refl _ _).drew.trans hb⟩
theorem seal_nil (w : World) : Calls Try.prog 86 #[.slice none 0 0] w fun e w' =>
    ∃ A m c, e = .returned (.slice A m c) ∧ IsB w' A m c [0, 0, 0, 0] ∧ Below w.heap.size w w' :=
  (seal_any none 0 0 [] w (IsB.nil w) (by decide)).mono fun e w' h => by
    obtain ⟨v, he, ho, hb⟩ := h
    obtain ⟨A, m, c, rfl, hi⟩ := own_slice ho
    exact ⟨A, m, c, he, hi, hb⟩

set_option maxRecDepth 100000 in
set_option maxHeartbeats 1000000 in
theorem awake_any (w : World) : Calls Try.prog 50 #[] w fun e w' => e = .returned (.bool true) ∧ Below w.heap.size w w' := by
  go_enter Try.func50, Try.ntmps50
  have hsame := fun (W : World) C n c => Lib.run_convert_bytes_const (P := Try.prog) W 26 5 C n c Try.underlying26 Try.underlying5
  go_wp2_with fail
  refine (laid_lit _ 0 [0] 1 _ _ _ _ rfl (by decide) uv0 rfl rfl).mono ?_
  rintro e w1 ⟨rfl, hb1⟩
  have hB := bstep (Below.refl w.heap.size w) hb1
  clear hb1
  go_wp2_with fail
  refine (laid_lit _ 127 [127] 1 _ _ _ _ rfl (by decide) uv127 rfl rfl).mono ?_
  rintro e w2 ⟨rfl, hb2⟩
  replace hB := bstep hB hb2
  clear hb2
  go_wp2_with fail
  refine (laid_lit _ 128 [128, 1] 2 _ _ _ _ rfl (by decide) uv128 rfl rfl).mono ?_
  rintro e w3 ⟨rfl, hb3⟩
  replace hB := bstep hB hb3
  clear hb3 
  go_wp2_with fail
  refine (laid_lit _ 300 [172, 2] 2 _ _ _ _ rfl (by decide) uv300 rfl rfl).mono ?_
  rintro e w4 ⟨rfl, hb4⟩
  replace hB := bstep hB hb4
  clear hb4
  go_wp2_with fail
  refine (folds_lit (-1) _ 1 _ rfl (by decide) (by decide) (by decide)).mono ?_
  rintro e w5 ⟨rfl, hb5⟩
  replace hB := bstep0 hB hb5
  clear hb5
  go_wp2_with fail
  refine (folds_lit 1 _ 2 _ rfl (by decide) (by decide) (by decide)).mono ?_
  rintro e w6 ⟨rfl, hb6⟩
  replace hB := bstep0 hB hb6
  clear hb6
  go_wp2_with fail
  refine (folds_lit (-64) _ 127 _ rfl (by decide) (by decide) (by decide)).mono ?_
  rintro e w7 ⟨rfl, hb7⟩
  replace hB := bstep0 hB hb7
  clear hb7
  go_wp2_with fail
  refine (blob_lit [2, 97, 98] 2 [97, 98] _ _ _ _ (by rw [uv2]; rfl) rfl rfl (by decide)).mono ?_
  rintro e w8 ⟨A8, n8, c8, rfl, hc8, hb8⟩
  replace hB := bstep hB hb8
  clear hb8
  go_wp2_with fail
  refine (errorAt_lit [128, 0] 2 10 _ _ _ _ _ rfl (by decide) rfl rfl (by decide)).mono ?_
  rintro e w9 ⟨rfl, hb9⟩
  replace hB := bstep hB hb9
  clear hb9
  go_wp2_with fail
  refine (errorAt_lit [128] 1 11 _ _ _ _ _ rfl (by decide) rfl rfl (by decide)).mono ?_
  rintro e w10 ⟨rfl, hb10⟩
  replace hB := bstep hB hb10
  clear hb10 hc8
  go_wp2_with fail
  have h9 : (convert 26 26 (.slice (some ⟨w10.heap.size, 0, none⟩) 9 9)).run Try.prog (w10.alloc (.cells #[Value.int .u8 49, Value.int .u8 50, Value.int .u8 51, Value.int .u8 52, Value.int .u8 53, Value.int .u8 54, Value.int .u8 55, Value.int .u8 56, Value.int .u8 57] 5)).drew = .ok (.slice (some ⟨w10.heap.size, 0, none⟩) 9 9) (w10.alloc (.cells #[Value.int .u8 49, Value.int .u8 50, Value.int .u8 51, Value.int .u8 52, Value.int .u8 53, Value.int .u8 54, Value.int .u8 55, Value.int .u8 56, Value.int .u8 57] 5 (9, 10))).drew :=
    Lib.run_convert_bytes_const (P := Try.prog) w10.drew 26 5 #[Value.int .u8 49, Value.int .u8 50, Value.int .u8 51, Value.int .u8 52, Value.int .u8 53, Value.int .u8 54, Value.int .u8 55, Value.int .u8 56, Value.int .u8 57] 9 9 Try.underlying26 Try.underlying5
  clear hsame
  have hmk : ∀ u : World, (Instr.makeSlice 26 (.int .i64 4) (.int .i64 4)).run Try.prog u = .ok (.slice (some ⟨u.heap.size, 0, none⟩) 4 4) (u.alloc (.cells #[Value.int .u8 0, Value.int .u8 0, Value.int .u8 0, Value.int .u8 0] 5)) := fun _ => by kernel_rfl
  refine wp_region_held_drew (S := fun _ => True) (by kernel_rfl) trivial (fun hHeld => ?_)
  refine wpAnyH_take (i := 0) (v := ?_) rfl (by kernel_rfl) (by kernel_rfl) (by kernel_rfl) (fun _ _ _ h => h) (Or.inl ⟨by rfl, ?_⟩) hHeld ?_
  rotate_left
  · (intro w hSw; (try dsimp only at hSw); go_simp <;> rfl)
  simp only [Act.put, List.getElem_toArray, List.getElem_cons_zero, List.getElem_cons_succ, List.setIfInBounds_toArray, List.set_cons_zero, List.set_cons_succ]
  refine wpAnyH_take (i := 1) (v := ?_) rfl (by kernel_rfl) (by kernel_rfl) (by kernel_rfl) (fun _ _ _ h => h) (Or.inl ⟨by rfl, ?_⟩) hHeld ?_
  rotate_left
  · (intro w hSw; (try dsimp only at hSw); go_simp <;> rfl)
  simp only [Act.put, List.getElem_toArray, List.getElem_cons_zero, List.getElem_cons_succ, List.setIfInBounds_toArray, List.set_cons_zero, List.set_cons_succ]
  refine wpAnyH_take (i := 2) (v := ?_) rfl (by kernel_rfl) (by kernel_rfl) (by kernel_rfl) (fun _ _ _ h => h) (Or.inl ⟨by rfl, ?_⟩) hHeld ?_
  rotate_left
  · (intro w hSw; (try dsimp only at hSw); go_simp <;> rfl)
  simp only [Act.put, List.getElem_toArray, List.getElem_cons_zero, List.getElem_cons_succ, List.setIfInBounds_toArray, List.set_cons_zero, List.set_cons_succ]
  refine wpAnyH_take (i := 3) (v := ?_) rfl (by kernel_rfl) (by kernel_rfl) (by kernel_rfl) (fun _ _ _ h => h) (Or.inl ⟨by rfl, ?_⟩) hHeld ?_
  rotate_left
  · (intro w hSw; (try dsimp only at hSw); go_simp <;> rfl)
  simp only [Act.put, List.getElem_toArray, List.getElem_cons_zero, List.getElem_cons_succ, List.setIfInBounds_toArray, List.set_cons_zero, List.set_cons_succ]
  refine wpAnyH_take (i := 4) (v := ?_) rfl (by kernel_rfl) (by kernel_rfl) (by kernel_rfl) (fun _ _ _ h => h) (Or.inl ⟨by rfl, ?_⟩) hHeld ?_
  rotate_left
  · (intro w hSw; (try dsimp only at hSw); go_simp <;> rfl)
  simp only [Act.put, List.getElem_toArray, List.getElem_cons_zero, List.getElem_cons_succ, List.setIfInBounds_toArray, List.set_cons_zero, List.set_cons_succ]
  refine wpAnyH_ready (rs := [5]) (by kernel_rfl) (by simp) ?_
  refine AllReadyH.cons rfl (fun K hK => ?_) AllReadyH.nil
  go_simp
  refine hK.out _ _ trivial (fun hHeld => ?_)
  clear hK K
  try simp only [Act.put, List.getElem_toArray, List.getElem_cons_zero, List.getElem_cons_succ, List.setIfInBounds_toArray, List.set_cons_zero, List.set_cons_succ]
  refine wpAnyH_ready (rs := [6]) (by kernel_rfl) (by simp) ?_
  refine AllReadyH.cons rfl (fun K hK => ?_) AllReadyH.nil
  go_simp
  refine hK.out _ _ trivial (fun hHeld => ?_)
  clear hK K
  try simp only [Act.put, List.getElem_toArray, List.getElem_cons_zero, List.getElem_cons_succ, List.setIfInBounds_toArray, List.set_cons_zero, List.set_cons_succ]
  clear h9
  refine wpAnyH_ready (rs := [7]) (by kernel_rfl) (by simp) ?_
  refine AllReadyH.cons rfl (fun K hK => ?_) AllReadyH.nil
  go_simp
  refine (crc_lit [49, 50, 51, 52, 53, 54, 55, 56, 57] 9 3421780262 _ _ _ _ _ rfl (by decide +kernel) rfl rfl (by decide)).mono ?_
  rintro e w11 ⟨rfl, hb11⟩
  dsimp only
  replace hB := bstep hB hb11
  clear hb11
  refine hK.out _ _ trivial (fun hHeld => ?_)
  clear hK K
  try simp only [Act.put, List.getElem_toArray, List.getElem_cons_zero, List.getElem_cons_succ, List.setIfInBounds_toArray, List.set_cons_zero, List.set_cons_succ]
  refine wpAnyH_take (i := 8) (v := ?_) rfl (by kernel_rfl) (by kernel_rfl) (by kernel_rfl) (fun _ _ _ h => h) (Or.inl ⟨by rfl, ?_⟩) hHeld ?_
  rotate_left
  · (intro w hSw; (try dsimp only at hSw); go_simp <;> rfl)
  simp only [Act.put, List.getElem_toArray, List.getElem_cons_zero, List.getElem_cons_succ, List.setIfInBounds_toArray, List.set_cons_zero, List.set_cons_succ]
  refine wpAnyH_take (i := 9) (v := ?_) rfl (by kernel_rfl) (by kernel_rfl) (by kernel_rfl) (fun _ _ _ h => h) (Or.inl ⟨by rfl, ?_⟩) hHeld ?_
  rotate_left
  · (intro w hSw; (try dsimp only at hSw); go_simp <;> rfl)
  simp only [Act.put, List.getElem_toArray, List.getElem_cons_zero, List.getElem_cons_succ, List.setIfInBounds_toArray, List.set_cons_zero, List.set_cons_succ]
  refine wpAnyH_take (i := 10) (v := ?_) rfl (by kernel_rfl) (by kernel_rfl) (by kernel_rfl) (fun _ _ _ h => h) (Or.inl ⟨by rfl, ?_⟩) hHeld ?_
  rotate_left
  · (intro w hSw; (try dsimp only at hSw); go_simp <;> rfl)
  simp only [Act.put, List.getElem_toArray, List.getElem_cons_zero, List.getElem_cons_succ, List.setIfInBounds_toArray, List.set_cons_zero, List.set_cons_succ]
  refine wpAnyH_ready (rs := [11, 13]) (by kernel_rfl) (by simp) ?_
  refine AllReadyH.cons rfl (fun K hK => ?_) (AllReadyH.cons rfl (fun K hK => ?_) AllReadyH.nil)
  · go_simp
    refine (seal_nil w11).mono ?_
    rintro e w12 ⟨As, ms, cs, rfl, hi, hb12⟩
    replace hB := bstep0 hB hb12
    clear hb12
    dsimp only
    refine hK.out _ _ trivial (fun hHeld => ?_)
    clear hK K
    try simp only [Act.put, List.getElem_toArray, List.getElem_cons_zero, List.getElem_cons_succ, List.setIfInBounds_toArray, List.set_cons_zero, List.set_cons_succ]
    refine wpAnyH_mono (S' := fun w' => (convert 26 9 (.slice As ms cs)).run Try.prog w' = .ok (.string ⟨[0, 0, 0, 0].toArray⟩) w') (fun _ _ => trivial) _ _ _ _ ?_
    replace hHeld := str_of w12 hi
    refine wpAnyH_take (i := 12) (v := ?_) rfl (by kernel_rfl) (by kernel_rfl) (by kernel_rfl) (fun _ _ _ h => h) (Or.inl ⟨by rfl, ?_⟩) hHeld ?_
    rotate_left
    · (intro w hSw; (try dsimp only at hSw); go_simp <;> rfl)
    simp only [Act.put, List.getElem_toArray, List.getElem_cons_zero, List.getElem_cons_succ, List.setIfInBounds_toArray, List.set_cons_zero, List.set_cons_succ]
    refine wpAnyH_ready (rs := [13]) (by kernel_rfl) (by simp) ?_
    refine AllReadyH.cons rfl (fun K hK => ?_) AllReadyH.nil
    go_simp
    refine hK.out _ _ (str_of _ (hi.alloc _)) (fun hHeld => ?_)
    clear hK K
    try simp only [Act.put, List.getElem_toArray, List.getElem_cons_zero, List.getElem_cons_succ, List.setIfInBounds_toArray, List.set_cons_zero, List.set_cons_succ]
    refine wpAnyH_mono (S' := fun w' => (convert 26 9 (.slice As ms cs)).run Try.prog w' = .ok (.string ⟨[0, 0, 0, 0].toArray⟩) w' ∧ (convert 26 9 (.slice (some ⟨w12.heap.size, 0, none⟩) 4 4)).run Try.prog w' = .ok (.string ⟨[0, 0, 0, 0].toArray⟩) w') (fun _ h => h.1) _ _ _ _ ?_
    replace hHeld := And.intro hHeld (str_of _ (new_is w12 5 (0, 0) [0, 0, 0, 0] 4 _ rfl rfl))
    refine wpAnyH_take (i := 14) (v := ?_) rfl (by kernel_rfl) (by kernel_rfl) (by kernel_rfl) (fun _ _ _ h => h) (Or.inl ⟨by rfl, ?_⟩) hHeld ?_
    rotate_left
    · (intro w hSw; (try dsimp only at hSw); go_simp <;> rfl)
    simp only [Act.put, List.getElem_toArray, List.getElem_cons_zero, List.getElem_cons_succ, List.setIfInBounds_toArray, List.set_cons_zero, List.set_cons_succ]
    refine wpAnyH_take (i := 15) (v := ?_) rfl (by kernel_rfl) (by kernel_rfl) (by kernel_rfl) (fun _ _ _ h => h) (Or.inl ⟨by rfl, ?_⟩) hHeld ?_
    rotate_left
    · (intro w hSw; (try dsimp only at hSw); go_simp <;> rfl)
    simp only [Act.put, List.getElem_toArray, List.getElem_cons_zero, List.getElem_cons_succ, List.setIfInBounds_toArray, List.set_cons_zero, List.set_cons_succ]
    refine wpAnyH_take (i := 16) (v := ?_) rfl (by kernel_rfl) (by kernel_rfl) (by kernel_rfl) (fun _ _ _ h => h) (Or.inl ⟨by rfl, ?_⟩) hHeld ?_
    rotate_left
    · (intro w hSw; (try dsimp only at hSw); go_simp <;> rfl)
    simp only [Act.put, List.getElem_toArray, List.getElem_cons_zero, List.getElem_cons_succ, List.setIfInBounds_toArray, List.set_cons_zero, List.set_cons_succ]
    refine wpAnyH_take (i := 17) (v := ?_) rfl (by kernel_rfl) (by kernel_rfl) (by kernel_rfl) (fun _ _ _ h => h) (Or.inl ⟨by rfl, ?_⟩) hHeld ?_
    rotate_left
    · (intro w hSw; (try dsimp only at hSw); go_simp <;> rfl)
    simp only [Act.put, List.getElem_toArray, List.getElem_cons_zero, List.getElem_cons_succ, List.setIfInBounds_toArray, List.set_cons_zero, List.set_cons_succ]
    refine wpAnyH_done (by kernel_rfl) ?_ _
    go_wp2
    go_ret
    exact ⟨rfl, hB.alloc hB.size _⟩
  · go_simp
    refine hK.out _ _ trivial (fun hHeld => ?_)
    clear hK K
    try simp only [Act.put, List.getElem_toArray, List.getElem_cons_zero, List.getElem_cons_succ, List.setIfInBounds_toArray, List.set_cons_zero, List.set_cons_succ]
    have hi := new_is w11 5 (0, 0) [0, 0, 0, 0] 4 _ rfl rfl
    refine wpAnyH_mono (S' := fun w' => (convert 26 9 (.slice (some ⟨w11.heap.size, 0, none⟩) 4 4)).run Try.prog w' = .ok (.string ⟨[0, 0, 0, 0].toArray⟩) w') (fun _ _ => trivial) _ _ _ _ ?_
    replace hHeld := str_of _ hi
    refine wpAnyH_take (i := 14) (v := ?_) rfl (by kernel_rfl) (by kernel_rfl) (by kernel_rfl) (fun _ _ _ h => h) (Or.inl ⟨by rfl, ?_⟩) hHeld ?_
    rotate_left
    · (intro w hSw; (try dsimp only at hSw); go_simp <;> rfl)
    simp only [Act.put, List.getElem_toArray, List.getElem_cons_zero, List.getElem_cons_succ, List.setIfInBounds_toArray, List.set_cons_zero, List.set_cons_succ]
    refine wpAnyH_ready (rs := [11]) (by kernel_rfl) (by simp) ?_
    refine AllReadyH.cons rfl (fun K hK => ?_) AllReadyH.nil
    go_simp
    refine (seal_nil _).mono ?_
    rintro e w12 ⟨As, ms, cs, rfl, hi2, hb12⟩
    dsimp only
    refine hK.out _ _ (str_of w12 (hi.below hb12)) (fun hHeld => ?_)
    clear hK K
    replace hB := bstep hB hb12
    clear hb12
    try simp only [Act.put, List.getElem_toArray, List.getElem_cons_zero, List.getElem_cons_succ, List.setIfInBounds_toArray, List.set_cons_zero, List.set_cons_succ]
    refine wpAnyH_mono (S' := fun w' => (convert 26 9 (.slice (some ⟨w11.heap.size, 0, none⟩) 4 4)).run Try.prog w' = .ok (.string ⟨[0, 0, 0, 0].toArray⟩) w' ∧ (convert 26 9 (.slice As ms cs)).run Try.prog w' = .ok (.string ⟨[0, 0, 0, 0].toArray⟩) w') (fun _ h => h.1) _ _ _ _ ?_
    replace hHeld := And.intro hHeld (str_of w12 hi2)
    refine wpAnyH_take (i := 12) (v := ?_) rfl (by kernel_rfl) (by kernel_rfl) (by kernel_rfl) (fun _ _ _ h => h) (Or.inl ⟨by rfl, ?_⟩) hHeld ?_
    rotate_left
    · (intro w hSw; (try dsimp only at hSw); go_simp <;> rfl)
    simp only [Act.put, List.getElem_toArray, List.getElem_cons_zero, List.getElem_cons_succ, List.setIfInBounds_toArray, List.set_cons_zero, List.set_cons_succ]
    refine wpAnyH_take (i := 15) (v := ?_) rfl (by kernel_rfl) (by kernel_rfl) (by kernel_rfl) (fun _ _ _ h => h) (Or.inl ⟨by rfl, ?_⟩) hHeld ?_
    rotate_left
    · (intro w hSw; (try dsimp only at hSw); go_simp <;> rfl)
    simp only [Act.put, List.getElem_toArray, List.getElem_cons_zero, List.getElem_cons_succ, List.setIfInBounds_toArray, List.set_cons_zero, List.set_cons_succ]
    refine wpAnyH_take (i := 16) (v := ?_) rfl (by kernel_rfl) (by kernel_rfl) (by kernel_rfl) (fun _ _ _ h => h) (Or.inl ⟨by rfl, ?_⟩) hHeld ?_
    rotate_left
    · (intro w hSw; (try dsimp only at hSw); go_simp <;> rfl)
    simp only [Act.put, List.getElem_toArray, List.getElem_cons_zero, List.getElem_cons_succ, List.setIfInBounds_toArray, List.set_cons_zero, List.set_cons_succ]
    refine wpAnyH_take (i := 17) (v := ?_) rfl (by kernel_rfl) (by kernel_rfl) (by kernel_rfl) (fun _ _ _ h => h) (Or.inl ⟨by rfl, ?_⟩) hHeld ?_
    rotate_left
    · (intro w hSw; (try dsimp only at hSw); go_simp <;> rfl)
    simp only [Act.put, List.getElem_toArray, List.getElem_cons_zero, List.getElem_cons_succ, List.setIfInBounds_toArray, List.set_cons_zero, List.set_cons_succ]
    refine wpAnyH_done (by kernel_rfl) ?_ _
    go_wp2
    go_ret
    exact ⟨rfl, hB⟩
end Go.Proofs.Ytdcflgblaljdeaa
