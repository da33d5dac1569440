/-
  EventShift: the bytes of an event beside the one ahead hang on its Op and on how much the others differ alone.
-/
import Derived.Test.YtindmilfkcggaaaEvAwake
set_option linter.unusedVariables false
set_option linter.unusedSimpArgs false
namespace Go.Proofs.Ytindmilfkcggaaa
open Go.RowKit
open Go.Lib (byteCells byteCells_length byteCells_append uvarint)

/-- an event whose numbers are greater by some -/
def upEv (e : Ev) (d0 d1 d2 d3 : Int) : Ev := ⟨wrap64 (e.th + d0), e.op, wrap64 (e.obj + d1), wrap64 (e.a + d2), wrap64 (e.b + d3)⟩
theorem encEv_up (p e : Ev) (d0 d1 d2 d3 : Int) : encEv (upEv p d0 d1 d2 d3) (upEv e d0 d1 d2 d3) = encEv p e := by
  unfold encEv upEv
  simp only [dif_shift]
set_option maxRecDepth 100000 in
set_option maxHeartbeats 1000000 in
theorem up_any (e : Ev) (d0 d1 d2 d3 : Int) (w : World) : Calls Try.prog 25 #[.agg #[.int .i64 e.th, .int .u8 (e.op : Int), .int .i64 e.obj, .int .i64 e.a, .int .i64 e.b], .agg #[.int .i64 d0, .int .i64 d1, .int .i64 d2, .int .i64 d3]] w fun x w' =>
    x = .returned (.agg #[.int .i64 (upEv e d0 d1 d2 d3).th, .int .u8 ((upEv e d0 d1 d2 d3).op : Int), .int .i64 (upEv e d0 d1 d2 d3).obj, .int .i64 (upEv e d0 d1 d2 d3).a, .int .i64 (upEv e d0 d1 d2 d3).b]) ∧ Below w.heap.size w w' := by
  unfold upEv
  dsimp only
  go_enter Try.func25, Try.ntmps25
  go_wp2_with fail
  refine bodyPost_ret (v := .agg #[.int .i64 (wrap64 (e.th + d0)), .int .u8 (e.op : Int), .int .i64 (wrap64 (e.obj + d1)), .int .i64 (wrap64 (e.a + d2)), .int .i64 (wrap64 (e.b + d3))]) (by simp [results, Try.results25, go_sem]) rfl ⟨rfl, ?_⟩
  go_grown
theorem allocs3 (w : World) (o1 o2 o3 : Obj) : Below w.heap.size w (((w.alloc o1).alloc o2).alloc o3) ∧ (((w.alloc o1).alloc o2).alloc o3).heap[w.heap.size]? = some o1 ∧
    (((w.alloc o1).alloc o2).alloc o3).heap[w.heap.size + 1]? = some o2 ∧ (((w.alloc o1).alloc o2).alloc o3).heap[w.heap.size + 1 + 1]? = some o3 := by
  refine ⟨((((Below.refl _ w).alloc (Nat.le_refl _) _).alloc (by simp) _).alloc (by simp; omega) _), ?_, ?_, ?_⟩
  · rw [heap_alloc_old _ _ (by simp; omega), heap_alloc_old _ _ (by simp)]
    exact heap_alloc_new w o1
  · rw [heap_alloc_old _ _ (by simp)]
    have := heap_alloc_new (w.alloc o1) o2
    simpa using this
  · have := heap_alloc_new ((w.alloc o1).alloc o2) o3
    simpa using this
theorem Put_nil (p e : Ev) (w : World) (hop : e.op < 256) :
    Calls Try.prog 10 #[.slice none 0 0, .agg #[.int .i64 p.th, .int .u8 (p.op : Int), .int .i64 p.obj, .int .i64 p.a, .int .i64 p.b], .agg #[.int .i64 e.th, .int .u8 (e.op : Int), .int .i64 e.obj, .int .i64 e.a, .int .i64 e.b]] w fun x w' => ∃ A n c, x = .returned (.slice A n c) ∧ IsB w' A n c (encEv p e) ∧ Below w.heap.size w w' := by
  refine (Put_any none 0 0 [] e p w (IsB.nil w) (by decide) hop).mono ?_
  rintro x w' ⟨v, rfl, ho, hb⟩
  obtain ⟨A, n, c, rfl, hI⟩ := own_slice ho
  exact ⟨A, n, c, rfl, hI, hb⟩

set_option maxRecDepth 100000 in
set_option maxHeartbeats 2000000 in
theorem shift_walk (p e : Ev) (d0 d1 d2 d3 : Int) (w : World) (hop : e.op < 256) :
    Calls Try.prog 6 #[.agg #[.int .i64 p.th, .int .u8 (p.op : Int), .int .i64 p.obj, .int .i64 p.a, .int .i64 p.b], .agg #[.int .i64 e.th, .int .u8 (e.op : Int), .int .i64 e.obj, .int .i64 e.a, .int .i64 e.b], .agg #[.int .i64 d0, .int .i64 d1, .int .i64 d2, .int .i64 d3]] w fun x w' => x = .returned (.bool true) ∧ Below w.heap.size w w' := by
  obtain ⟨hB3, k0, k1, k2⟩ := allocs3 w (.cells #[.int .i64 p.th, .int .u8 (p.op : Int), .int .i64 p.obj, .int .i64 p.a, .int .i64 p.b] 24) (.cells #[.int .i64 e.th, .int .u8 (e.op : Int), .int .i64 e.obj, .int .i64 e.a, .int .i64 e.b] 24) (.cells #[.int .i64 d0, .int .i64 d1, .int .i64 d2, .int .i64 d3] 46)
  go_enter Try.func6, Try.ntmps6
  go_wp2_with fail
  generalize (((w.alloc (.cells #[.int .i64 p.th, .int .u8 (p.op : Int), .int .i64 p.obj, .int .i64 p.a, .int .i64 p.b] 24)).alloc (.cells #[.int .i64 e.th, .int .u8 (e.op : Int), .int .i64 e.obj, .int .i64 e.a, .int .i64 e.b] 24)).alloc (.cells #[.int .i64 d0, .int .i64 d1, .int .i64 d2, .int .i64 d3] 46)) = W3 at hB3 k0 k1 k2 ⊢
  have x0 : W3.cell? ⟨w.heap.size, 0, none⟩ = some (.int .i64 p.th) := cell_of_row _ _ 0 _ _ _ k0
  have x1 : W3.cell? ⟨w.heap.size, 1, none⟩ = some (.int .u8 (p.op : Int)) := cell_of_row _ _ 1 _ _ _ k0
  have x2 : W3.cell? ⟨w.heap.size, 2, none⟩ = some (.int .i64 p.obj) := cell_of_row _ _ 2 _ _ _ k0
  have x3 : W3.cell? ⟨w.heap.size, 3, none⟩ = some (.int .i64 p.a) := cell_of_row _ _ 3 _ _ _ k0
  have x4 : W3.cell? ⟨w.heap.size, 4, none⟩ = some (.int .i64 p.b) := cell_of_row _ _ 4 _ _ _ k0
  have y0 : W3.cell? ⟨w.heap.size + 1, 0, none⟩ = some (.int .i64 e.th) := cell_of_row _ _ 0 _ _ _ k1
  have y1 : W3.cell? ⟨w.heap.size + 1, 1, none⟩ = some (.int .u8 (e.op : Int)) := cell_of_row _ _ 1 _ _ _ k1
  have y2 : W3.cell? ⟨w.heap.size + 1, 2, none⟩ = some (.int .i64 e.obj) := cell_of_row _ _ 2 _ _ _ k1
  have y3 : W3.cell? ⟨w.heap.size + 1, 3, none⟩ = some (.int .i64 e.a) := cell_of_row _ _ 3 _ _ _ k1
  have y4 : W3.cell? ⟨w.heap.size + 1, 4, none⟩ = some (.int .i64 e.b) := cell_of_row _ _ 4 _ _ _ k1
  have z0 : W3.cell? ⟨w.heap.size + 1 + 1, 0, none⟩ = some (.int .i64 d0) := cell_of_row _ _ 0 _ _ _ k2
  have z1 : W3.cell? ⟨w.heap.size + 1 + 1, 1, none⟩ = some (.int .i64 d1) := cell_of_row _ _ 1 _ _ _ k2
  have z2 : W3.cell? ⟨w.heap.size + 1 + 1, 2, none⟩ = some (.int .i64 d2) := cell_of_row _ _ 2 _ _ _ k2
  have z3 : W3.cell? ⟨w.heap.size + 1 + 1, 3, none⟩ = some (.int .i64 d3) := cell_of_row _ _ 3 _ _ _ k2
  clear k0 k1 k2
  refine wp_region_held_drew (S := fun w' => Below W3.heap.size W3 w') (by kernel_rfl) ((Below.refl _ W3).drew) (fun hHeld => ?_)
  refine wpAnyH_take (i := 0) (v := ?_) rfl (by kernel_rfl) (by kernel_rfl) (by kernel_rfl) (fun _ _ _ h => h) (Or.inl ⟨by rfl, ?_⟩) hHeld ?_
  rotate_left
  · (intro wy hSw; have z0 := cell_below hSw _ _ x0; have z1 := cell_below hSw _ _ x1; have z2 := cell_below hSw _ _ x2; have z3 := cell_below hSw _ _ x3; have z4 := cell_below hSw _ _ x4; go_simp <;> rfl)
  simp only [Act.put, List.getElem_toArray, List.getElem_cons_zero, List.getElem_cons_succ, List.setIfInBounds_toArray, List.set_cons_zero, List.set_cons_succ]
  refine wpAnyH_take (i := 1) (v := ?_) rfl (by kernel_rfl) (by kernel_rfl) (by kernel_rfl) (fun _ _ _ h => h) (Or.inl ⟨by rfl, ?_⟩) hHeld ?_
  rotate_left
  · (intro wy hSw; have z0 := cell_below hSw _ _ y0; have z1 := cell_below hSw _ _ y1; have z2 := cell_below hSw _ _ y2; have z3 := cell_below hSw _ _ y3; have z4 := cell_below hSw _ _ y4; go_simp <;> rfl)
  simp only [Act.put, List.getElem_toArray, List.getElem_cons_zero, List.getElem_cons_succ, List.setIfInBounds_toArray, List.set_cons_zero, List.set_cons_succ]
  refine wpAnyH_take (i := 3) (v := ?_) rfl (by kernel_rfl) (by kernel_rfl) (by kernel_rfl) (fun _ _ _ h => h) (Or.inl ⟨by rfl, ?_⟩) hHeld ?_
  rotate_left
  · (intro wy hSw; have z0 := cell_below hSw _ _ x0; have z1 := cell_below hSw _ _ x1; have z2 := cell_below hSw _ _ x2; have z3 := cell_below hSw _ _ x3; have z4 := cell_below hSw _ _ x4; go_simp <;> rfl)
  simp only [Act.put, List.getElem_toArray, List.getElem_cons_zero, List.getElem_cons_succ, List.setIfInBounds_toArray, List.set_cons_zero, List.set_cons_succ]
  refine wpAnyH_take (i := 4) (v := ?_) rfl (by kernel_rfl) (by kernel_rfl) (by kernel_rfl) (fun _ _ _ h => h) (Or.inl ⟨by rfl, ?_⟩) hHeld ?_
  rotate_left
  · (intro wy hSw; have z0 := cell_below hSw _ _ z0; have z1 := cell_below hSw _ _ z1; have z2 := cell_below hSw _ _ z2; have z3 := cell_below hSw _ _ z3; go_simp <;> rfl)
  simp only [Act.put, List.getElem_toArray, List.getElem_cons_zero, List.getElem_cons_succ, List.setIfInBounds_toArray, List.set_cons_zero, List.set_cons_succ]
  refine wpAnyH_take (i := 6) (v := ?_) rfl (by kernel_rfl) (by kernel_rfl) (by kernel_rfl) (fun _ _ _ h => h) (Or.inl ⟨by rfl, ?_⟩) hHeld ?_
  rotate_left
  · (intro wy hSw; have z0 := cell_below hSw _ _ y0; have z1 := cell_below hSw _ _ y1; have z2 := cell_below hSw _ _ y2; have z3 := cell_below hSw _ _ y3; have z4 := cell_below hSw _ _ y4; go_simp <;> rfl)
  simp only [Act.put, List.getElem_toArray, List.getElem_cons_zero, List.getElem_cons_succ, List.setIfInBounds_toArray, List.set_cons_zero, List.set_cons_succ]
  refine wpAnyH_take (i := 7) (v := ?_) rfl (by kernel_rfl) (by kernel_rfl) (by kernel_rfl) (fun _ _ _ h => h) (Or.inl ⟨by rfl, ?_⟩) hHeld ?_
  rotate_left
  · (intro wy hSw; have z0 := cell_below hSw _ _ z0; have z1 := cell_below hSw _ _ z1; have z2 := cell_below hSw _ _ z2; have z3 := cell_below hSw _ _ z3; go_simp <;> rfl)
  simp only [Act.put, List.getElem_toArray, List.getElem_cons_zero, List.getElem_cons_succ, List.setIfInBounds_toArray, List.set_cons_zero, List.set_cons_succ]
  refine wpAnyH_ready (rs := [2]) (by kernel_rfl) (by simp) ?_
  refine AllReadyH.cons rfl (fun K hK => ?_) AllReadyH.nil
  go_simp
  refine (Put_nil p e _ hop).mono ?_
  rintro x w1 ⟨A1, n1, c1, rfl, hI1, hb1⟩
  have hS1 := bstep0 ((Below.refl _ W3).drew) hb1
  clear hb1
  dsimp only
  refine hK.out _ _ hS1 (fun hHeld => ?_)
  clear hK K
  try simp only [Act.put, List.getElem_toArray, List.getElem_cons_zero, List.getElem_cons_succ, List.setIfInBounds_toArray, List.set_cons_zero, List.set_cons_succ]
  refine wpAnyH_ready (rs := [5]) (by kernel_rfl) (by simp) ?_
  refine AllReadyH.cons rfl (fun K hK => ?_) AllReadyH.nil
  go_simp
  refine (up_any p d0 d1 d2 d3 w1).mono ?_
  rintro x w2 ⟨rfl, hb2⟩
  have hS2 := hS1.trans (hb2.mono hS1.size)
  have hI2 := hI1.below hb2
  clear hb2 hI1
  dsimp only
  refine hK.out _ _ hS2 (fun hHeld => ?_)
  clear hK K
  try simp only [Act.put, List.getElem_toArray, List.getElem_cons_zero, List.getElem_cons_succ, List.setIfInBounds_toArray, List.set_cons_zero, List.set_cons_succ]
  refine wpAnyH_ready (rs := [8]) (by kernel_rfl) (by simp) ?_
  refine AllReadyH.cons rfl (fun K hK => ?_) AllReadyH.nil
  go_simp
  refine (up_any e d0 d1 d2 d3 w2).mono ?_
  rintro x w3 ⟨rfl, hb3⟩
  have hS3 := hS2.trans (hb3.mono hS2.size)
  have hI3 := hI2.below hb3
  clear hb3 hI2
  dsimp only
  refine hK.out _ _ hS3 (fun hHeld => ?_)
  clear hK K
  try simp only [Act.put, List.getElem_toArray, List.getElem_cons_zero, List.getElem_cons_succ, List.setIfInBounds_toArray, List.set_cons_zero, List.set_cons_succ]
  refine wpAnyH_ready (rs := [9]) (by kernel_rfl) (by simp) ?_
  refine AllReadyH.cons rfl (fun K hK => ?_) AllReadyH.nil
  go_simp
  refine (Put_nil (upEv p d0 d1 d2 d3) (upEv e d0 d1 d2 d3) w3 hop).mono ?_
  rintro x w4 ⟨A4, n4, c4, rfl, hI4, hb4⟩
  have hS4 := hS3.trans (hb4.mono hS3.size)
  have hI4' := hI3.below hb4
  rw [encEv_up] at hI4
  clear hb4 hI3
  dsimp only
  refine hK.out _ _ hS4 (fun hHeld => ?_)
  clear hK K
  try simp only [Act.put, List.getElem_toArray, List.getElem_cons_zero, List.getElem_cons_succ, List.setIfInBounds_toArray, List.set_cons_zero, List.set_cons_succ]
  refine wpAnyH_ready (rs := [10]) (by kernel_rfl) (by simp) ?_
  refine AllReadyH.cons rfl (fun K hK => ?_) AllReadyH.nil
  go_simp
  refine (samebytes_any hI4' hI4).mono ?_
  rintro x w5 ⟨rfl, rfl⟩
  rw [decide_eq_true rfl]
  clear hI4 hI4'
  dsimp only
  refine hK.out _ _ hS4 (fun hHeld => ?_)
  clear hK K
  try simp only [Act.put, List.getElem_toArray, List.getElem_cons_zero, List.getElem_cons_succ, List.setIfInBounds_toArray, List.set_cons_zero, List.set_cons_succ]
  refine wpAnyH_take (i := 11) (v := ?_) rfl (by kernel_rfl) (by kernel_rfl) (by kernel_rfl) (fun _ _ _ h => h) (Or.inl ⟨by rfl, ?_⟩) hHeld ?_
  rotate_left
  · (intro w hSw; (try dsimp only at hSw); go_simp <;> rfl)
  simp only [Act.put, List.getElem_toArray, List.getElem_cons_zero, List.getElem_cons_succ, List.setIfInBounds_toArray, List.set_cons_zero, List.set_cons_succ]
  refine wpAnyH_ready (rs := [12]) (by kernel_rfl) (by simp) ?_
  refine AllReadyH.cons rfl (fun K hK => ?_) AllReadyH.nil
  go_simp
  refine (awake3_any _).mono ?_
  rintro x w6 ⟨rfl, hb6⟩
  have hS6 := hS4.trans (hb6.mono hS4.size)
  dsimp only
  refine hK.out _ _ hS6 (fun hHeld => ?_)
  clear hK K
  try simp only [Act.put, List.getElem_toArray, List.getElem_cons_zero, List.getElem_cons_succ, List.setIfInBounds_toArray, List.set_cons_zero, List.set_cons_succ]
  refine wpAnyH_take (i := 13) (v := ?_) rfl (by kernel_rfl) (by kernel_rfl) (by kernel_rfl) (fun _ _ _ h => h) (Or.inl ⟨by rfl, ?_⟩) hHeld ?_
  rotate_left
  · (intro w hSw; (try dsimp only at hSw); go_simp <;> rfl)
  simp only [Act.put, List.getElem_toArray, List.getElem_cons_zero, List.getElem_cons_succ, List.setIfInBounds_toArray, List.set_cons_zero, List.set_cons_succ]
  refine wpAnyH_take (i := 14) (v := ?_) rfl (by kernel_rfl) (by kernel_rfl) (by kernel_rfl) (fun _ _ _ h => h) (Or.inl ⟨by rfl, ?_⟩) hHeld ?_
  rotate_left
  · (intro w hSw; (try dsimp only at hSw); go_simp <;> rfl)
  simp only [Act.put, List.getElem_toArray, List.getElem_cons_zero, List.getElem_cons_succ, List.setIfInBounds_toArray, List.set_cons_zero, List.set_cons_succ]
  refine wpAnyH_done (by kernel_rfl) ?_ _
  go_wp2_with fail
  go_ret
  exact ⟨rfl, hB3.trans (hS6.mono hB3.size)⟩
end Go.Proofs.Ytindmilfkcggaaa
