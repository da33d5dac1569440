/-
  eachNumber with the closure that puts; put and Put.
-/
import Derived.Test.YtebpdlggkncliaaK2
set_option linter.unusedVariables false
set_option linter.unusedSimpArgs false
namespace Go.Proofs.Ytebpdlggkncliaa
open Go.RowKit
open Go.Lib (byteCells byteCells_length byteCells_append uvarint)

set_option maxRecDepth 100000 in
set_option maxHeartbeats 2000000 in
theorem each_put' {g0 : Option Nat} {l : List UInt8} {s : Nat} {w : World} {ob eb : Nat} {r : Raw} {e p : Ev} (ho : w.heap[ob]? = some (.cells #[r.sl] 26 (0, 0))) (he : w.heap[eb]? = some (.cells #[.int .i64 e.th, .int .u8 (e.op : Int), .int .i64 e.obj, .int .i64 e.a, .int .i64 e.b] 70 (0, 0))) (hr : FRow w r) (hl : l.length ≤ 900000) (hrc : Hid (r.c = (l, s))) (hrg : Hid (r.g = g0)) :
    Calls Try.prog 89 #[.agg #[.int .i64 p.th, .int .u8 (p.op : Int), .int .i64 p.obj, .int .i64 p.a, .int .i64 p.b], .pointer (some ⟨eb, 0, none⟩), .func (.func 134) #[] #[.pointer (some ⟨ob, 0, none⟩)]] w fun x w' => x = .returned (.tuple #[]) ∧
      ∃ r' : Raw, w'.heap[ob]? = some (.cells #[r'.sl] 26 (0, 0)) ∧ FRow w' r' ∧ r'.c = (l ++ (svar (dif p.th e.th) ++ (svar (dif p.obj e.obj) ++ (svar (dif p.a e.a) ++ svar (dif p.b e.b)))), s) ∧
      (r'.g = g0 ∨ ∃ b, r'.g = some b ∧ w.heap.size ≤ b) ∧ Away (fun b => b = ob ∨ b = eb ∨ g0 = some b) w w' := by
  have l0 := svar_most (dif_in p.th e.th); have l1 := svar_most (dif_in p.obj e.obj); have l2 := svar_most (dif_in p.a e.a)
  have hoe : ob ≠ eb := by rintro rfl; rw [ho] at he; simp at he
  have loz := (Array.getElem?_eq_some_iff.1 ho).1
  have lez := (Array.getElem?_eq_some_iff.1 he).1
  have hoa : ob ≠ w.heap.size := by omega
  have hea : eb ≠ w.heap.size := by omega
  have hB0 : Below w.heap.size w (w.alloc (.cells #[.int .i64 p.th, .int .u8 (p.op : Int), .int .i64 p.obj, .int .i64 p.a, .int .i64 p.b] 70 (0, 0))) := (Below.refl _ w).alloc (Nat.le_refl _) _
  have ho0 := (hB0.block ob loz).trans ho
  have he0 := (hB0.block eb lez).trans he
  have ha0 : (w.alloc (.cells #[.int .i64 p.th, .int .u8 (p.op : Int), .int .i64 p.obj, .int .i64 p.a, .int .i64 p.b] 70 (0, 0))).heap[w.heap.size]? = some (.cells #[.int .i64 p.th, .int .u8 (p.op : Int), .int .i64 p.obj, .int .i64 p.a, .int .i64 p.b] 70 (0, 0)) := heap_alloc_new _ _
  have hr0 := hr.away (Away.of_new hB0 (fun _ => False)) (fun _ _ f => f)
  have hc0 := hrc
  have hg0x : Hid (r.g = g0 ∨ ∃ b, r.g = some b ∧ w.heap.size ≤ b) := .inl hrg.out
  have hAw0 : Hid (Away (fun b => b = ob ∨ b = eb ∨ g0 = some b) w (w.alloc (.cells #[.int .i64 p.th, .int .u8 (p.op : Int), .int .i64 p.obj, .int .i64 p.a, .int .i64 p.b] 70 (0, 0)))) := Away.of_new hB0 _
  clear hB0 ho he hr loz lez
  go_enter Try.func89, Try.ntmps89
  go_wp2_with fail
  generalize w.alloc (.cells #[.int .i64 p.th, .int .u8 (p.op : Int), .int .i64 p.obj, .int .i64 p.a, .int .i64 p.b] 70 (0, 0)) = w0 at ho0 he0 ha0 hr0 hAw0 ⊢
  -- the number th
  have a0 : w0.drew.cell? ⟨w.heap.size, 0, none⟩ = some (.int .i64 p.th) := cell_of_row _ _ 0 _ _ _ ha0
  refine wp_region_held_drew (S := fun w' => w'.cell? ⟨w.heap.size, 0, none⟩ = some (.int .i64 p.th)) (by kernel_rfl) a0 (fun hHeld => ?_)
  refine wpAnyH_take (i := 0) (v := ?_) rfl (by kernel_rfl) (by kernel_rfl) (by kernel_rfl) (fun _ _ _ h => h) (Or.inl ⟨by rfl, ?_⟩) hHeld ?_
  rotate_left
  · (intro w hSw; (try dsimp only at hSw); go_simp <;> rfl)
  simp only [Act.put, List.getElem_toArray, List.getElem_cons_zero, List.getElem_cons_succ, List.setIfInBounds_toArray, List.set_cons_zero, List.set_cons_succ]
  refine wpAnyH_take (i := 1) (v := ?_) rfl (by kernel_rfl) (by kernel_rfl) (by kernel_rfl) (fun _ _ _ h => h) (Or.inl ⟨by rfl, ?_⟩) hHeld ?_
  rotate_left
  · (intro w hSw; (try dsimp only at hSw); go_simp <;> rfl)
  simp only [Act.put, List.getElem_toArray, List.getElem_cons_zero, List.getElem_cons_succ, List.setIfInBounds_toArray, List.set_cons_zero, List.set_cons_succ]
  refine wpAnyH_take (i := 2) (v := ?_) rfl (by kernel_rfl) (by kernel_rfl) (by kernel_rfl) (fun _ _ _ h => h) (Or.inl ⟨by rfl, ?_⟩) hHeld ?_
  rotate_left
  · (intro w hSw; (try dsimp only at hSw); go_simp <;> rfl)
  simp only [Act.put, List.getElem_toArray, List.getElem_cons_zero, List.getElem_cons_succ, List.setIfInBounds_toArray, List.set_cons_zero, List.set_cons_succ]
  refine wpAnyH_take (i := 3) (v := ?_) rfl (by kernel_rfl) (by kernel_rfl) (by kernel_rfl) (fun _ _ _ h => h) (Or.inl ⟨by rfl, ?_⟩) hHeld ?_
  rotate_left
  · (intro w hSw; (try dsimp only at hSw); go_simp <;> rfl)
  simp only [Act.put, List.getElem_toArray, List.getElem_cons_zero, List.getElem_cons_succ, List.setIfInBounds_toArray, List.set_cons_zero, List.set_cons_succ]
  refine wpAnyH_take (i := 4) (v := ?_) rfl (by kernel_rfl) (by kernel_rfl) (by kernel_rfl) (fun _ _ _ h => h) (Or.inl ⟨by rfl, ?_⟩) hHeld ?_
  rotate_left
  · (intro w hSw; (try dsimp only at hSw); go_simp <;> rfl)
  simp only [Act.put, List.getElem_toArray, List.getElem_cons_zero, List.getElem_cons_succ, List.setIfInBounds_toArray, List.set_cons_zero, List.set_cons_succ]
  refine wpAnyH_take (i := 5) (v := ?_) rfl (by kernel_rfl) (by kernel_rfl) (by kernel_rfl) (fun _ _ _ h => h) (Or.inl ⟨by rfl, ?_⟩) hHeld ?_
  rotate_left
  · (intro w hSw; (try dsimp only at hSw); go_simp <;> rfl)
  simp only [Act.put, List.getElem_toArray, List.getElem_cons_zero, List.getElem_cons_succ, List.setIfInBounds_toArray, List.set_cons_zero, List.set_cons_succ]
  refine wpAnyH_take (i := 6) (v := ?_) rfl (by kernel_rfl) (by kernel_rfl) (by kernel_rfl) (fun _ _ _ h => h) (Or.inl ⟨by rfl, ?_⟩) hHeld ?_
  rotate_left
  · (intro w hSw; (try dsimp only at hSw); go_simp <;> rfl)
  simp only [Act.put, List.getElem_toArray, List.getElem_cons_zero, List.getElem_cons_succ, List.setIfInBounds_toArray, List.set_cons_zero, List.set_cons_succ]
  have e0 : w0.drew.cell? ⟨eb, 0, none⟩ = some (.int .i64 e.th) := cell_of_row _ _ 0 _ _ _ he0
  refine wpAnyH_ready (rs := [7]) (by kernel_rfl) (by simp) ?_
  refine AllReadyH.cons rfl (fun K hK => ?_) AllReadyH.nil
  go_simp
  refine hK.out _ _ hHeld (fun hHeld => ?_)
  clear hK K
  try simp only [Act.put, List.getElem_toArray, List.getElem_cons_zero, List.getElem_cons_succ, List.setIfInBounds_toArray, List.set_cons_zero, List.set_cons_succ]
  refine wpAnyH_ready (rs := [8]) (by kernel_rfl) (by simp) ?_
  refine AllReadyH.cons rfl (fun K hK => ?_) AllReadyH.nil
  go_simp
  refine (cl_put (w := w0.drew) (r := r) ho0 hr0 (by rw [hc0.out]; (try simp only [List.length_append]); omega) p.th e.th).mono ?_
  rintro x w1 ⟨rfl, r1, ho1', hr1', hcx, hg1, hA1⟩
  have hc1 : Hid (r1.c = (l ++ (svar (dif p.th e.th)), s)) := by
    show _ = _
    rw [hcx, hc0.out]
    (try simp only [List.append_assoc])
  have hx1 : ∀ b, (b = ob ∨ r.g = some b) → b ≠ eb ∧ b ≠ w.heap.size := by
    rintro b (rfl | hb)
    · exact ⟨hoe, hoa⟩
    · obtain ⟨cs, hcs⟩ := row_type hr0 hb
      refine ⟨?_, ?_⟩ <;> rintro rfl
      · rw [he0] at hcs; simp at hcs
      · rw [ha0] at hcs; simp at hcs
  have le0 := (Array.getElem?_eq_some_iff.1 he0).1
  have la0 := (Array.getElem?_eq_some_iff.1 ha0).1
  have he1' := (hA1.block eb le0 (fun h => (hx1 _ h).1 rfl)).trans he0
  have ha1' := (hA1.block w.heap.size la0 (fun h => (hx1 _ h).2 rfl)).trans ha0
  dsimp only
  refine hK.out _ _ (cell_of_row _ _ 0 _ _ _ ha1') (fun hHeld => ?_)
  clear hK K hcx
  try simp only [Act.put, List.getElem_toArray, List.getElem_cons_zero, List.getElem_cons_succ, List.setIfInBounds_toArray, List.set_cons_zero, List.set_cons_succ]
  refine wpAnyH_take (i := 9) (v := ?_) rfl (by kernel_rfl) (by kernel_rfl) (by kernel_rfl) (fun _ _ _ h => h) (Or.inl ⟨by rfl, ?_⟩) hHeld ?_
  rotate_left
  · (intro w hSw; (try dsimp only at hSw); go_simp <;> rfl)
  simp only [Act.put, List.getElem_toArray, List.getElem_cons_zero, List.getElem_cons_succ, List.setIfInBounds_toArray, List.set_cons_zero, List.set_cons_succ]
  refine wpAnyH_take (i := 10) (v := ?_) rfl (by kernel_rfl) (by kernel_rfl) (by kernel_rfl) (fun _ _ _ h => h) (Or.inl ⟨by rfl, ?_⟩) hHeld ?_
  rotate_left
  · (intro w hSw; (try dsimp only at hSw); go_simp <;> rfl)
  simp only [Act.put, List.getElem_toArray, List.getElem_cons_zero, List.getElem_cons_succ, List.setIfInBounds_toArray, List.set_cons_zero, List.set_cons_succ]
  have y0 : w1.cell? ⟨eb, 0, none⟩ = some (.int .i64 e.th) := cell_of_row _ _ 0 _ _ _ he1'
  have yf0 := free_of_row he1' 0
  have hS1 := Away.setCell w1 ⟨eb, 0, none⟩ (.int .i64 e.th)
  have he1 : (w1.setCell ⟨eb, 0, none⟩ (.int .i64 e.th)).heap[eb]? = some (.cells #[.int .i64 e.th, .int .u8 (e.op : Int), .int .i64 e.obj, .int .i64 e.a, .int .i64 e.b] 70 (0, 0)) := by
    rw [set_blk he1' 0]; rfl
  have ha1 : (w1.setCell ⟨eb, 0, none⟩ (.int .i64 e.th)).heap[w.heap.size]? = some (.cells #[.int .i64 p.th, .int .u8 (p.op : Int), .int .i64 p.obj, .int .i64 p.a, .int .i64 p.b] 70 (0, 0)) :=
    (hS1.block w.heap.size (by have := (Array.getElem?_eq_some_iff.1 ha1').1; exact this) (fun h => hea h.symm)).trans ha1'
  have ho1 := (hS1.block ob (Array.getElem?_eq_some_iff.1 ho1').1 hoe).trans ho1'
  have hrn1 : ∀ b, r1.g = some b → b ≠ eb := fun b hb => by
    obtain ⟨cs, hcs⟩ := row_type hr1' hb
    rintro rfl
    rw [he1'] at hcs; simp at hcs
  have hr1 := hr1'.away hS1 hrn1
  have HE1 := Lib.hid he1
  have HA1 := Lib.hid ha1
  have HO1 := Lib.hid ho1
  have HAw1 := Lib.hid hA1
  have HS1 := Lib.hid hS1
  clear he1 ha1 ho1 he1' ha1' ho1' hrn1 le0 la0 hx1 e0 a0 hA1 hS1
  refine wpAnyH_ready (rs := [11]) (by kernel_rfl) (by simp) ?_
  refine AllReadyH.cons rfl (fun K hK => ?_) AllReadyH.nil
  go_simp
  refine hK.out _ _ (cell_of_row _ _ 0 _ _ _ HA1.out) (fun hHeld => ?_)
  clear hK K y0 yf0 hHeld he0 ha0 ho0 hr0 hr1'
  try simp only [Act.put, List.getElem_toArray, List.getElem_cons_zero, List.getElem_cons_succ, List.setIfInBounds_toArray, List.set_cons_zero, List.set_cons_succ]
  refine wpAnyH_done (by kernel_rfl) ?_ _
  have he1 := HE1.out
  have ha1 := HA1.out
  have ho1 := HO1.out
  clear HE1 HA1 HO1
  have hg1x : Hid (r1.g = g0 ∨ ∃ b, r1.g = some b ∧ w.heap.size ≤ b) := by
    show _ ∨ _
    have hz := hAw0.out.size
    rcases hg1 with h | ⟨b, hb, hbz⟩
    · rw [h]; exact hg0x.out
    · exact .inr ⟨b, hb, Nat.le_trans hz hbz⟩
  have hAw1 : Hid (Away (fun b => b = ob ∨ b = eb ∨ g0 = some b) w (w1.setCell ⟨eb, 0, none⟩ (.int .i64 e.th))) := by
    refine ((hAw0.out.drew.trans HAw1.out fun b h => ?_).trans HS1.out fun b h => .inl (.inr (.inl h)))
    rcases h with h | h
    · exact .inl (.inl h)
    · rcases hg0x.out with h' | ⟨b', hb', hz'⟩
      · rw [h'] at h; exact .inl (.inr (.inr h))
      · rw [h] at hb'; injection hb' with hb'; exact .inr (by omega)
  clear hg0x hAw0 HAw1 HS1 hg1 hc0
  generalize w1.setCell ⟨eb, 0, none⟩ (.int .i64 e.th) = w1 at he1 ha1 ho1 hr1 hAw1 ⊢
  try go_wp2_with fail
  -- the number obj
  have a1 : w1.drew.cell? ⟨w.heap.size, 2, none⟩ = some (.int .i64 p.obj) := cell_of_row _ _ 2 _ _ _ ha1
  refine wp_region_held_drew (S := fun w' => w'.cell? ⟨w.heap.size, 2, none⟩ = some (.int .i64 p.obj)) (by kernel_rfl) a1 (fun hHeld => ?_)
  refine wpAnyH_take (i := 0) (v := ?_) rfl (by kernel_rfl) (by kernel_rfl) (by kernel_rfl) (fun _ _ _ h => h) (Or.inl ⟨by rfl, ?_⟩) hHeld ?_
  rotate_left
  · (intro w hSw; (try dsimp only at hSw); go_simp <;> rfl)
  simp only [Act.put, List.getElem_toArray, List.getElem_cons_zero, List.getElem_cons_succ, List.setIfInBounds_toArray, List.set_cons_zero, List.set_cons_succ]
  refine wpAnyH_take (i := 1) (v := ?_) rfl (by kernel_rfl) (by kernel_rfl) (by kernel_rfl) (fun _ _ _ h => h) (Or.inl ⟨by rfl, ?_⟩) hHeld ?_
  rotate_left
  · (intro w hSw; (try dsimp only at hSw); go_simp <;> rfl)
  simp only [Act.put, List.getElem_toArray, List.getElem_cons_zero, List.getElem_cons_succ, List.setIfInBounds_toArray, List.set_cons_zero, List.set_cons_succ]
  refine wpAnyH_take (i := 2) (v := ?_) rfl (by kernel_rfl) (by kernel_rfl) (by kernel_rfl) (fun _ _ _ h => h) (Or.inl ⟨by rfl, ?_⟩) hHeld ?_
  rotate_left
  · (intro w hSw; (try dsimp only at hSw); go_simp <;> rfl)
  simp only [Act.put, List.getElem_toArray, List.getElem_cons_zero, List.getElem_cons_succ, List.setIfInBounds_toArray, List.set_cons_zero, List.set_cons_succ]
  refine wpAnyH_take (i := 3) (v := ?_) rfl (by kernel_rfl) (by kernel_rfl) (by kernel_rfl) (fun _ _ _ h => h) (Or.inl ⟨by rfl, ?_⟩) hHeld ?_
  rotate_left
  · (intro w hSw; (try dsimp only at hSw); go_simp <;> rfl)
  simp only [Act.put, List.getElem_toArray, List.getElem_cons_zero, List.getElem_cons_succ, List.setIfInBounds_toArray, List.set_cons_zero, List.set_cons_succ]
  refine wpAnyH_take (i := 4) (v := ?_) rfl (by kernel_rfl) (by kernel_rfl) (by kernel_rfl) (fun _ _ _ h => h) (Or.inl ⟨by rfl, ?_⟩) hHeld ?_
  rotate_left
  · (intro w hSw; (try dsimp only at hSw); go_simp <;> rfl)
  simp only [Act.put, List.getElem_toArray, List.getElem_cons_zero, List.getElem_cons_succ, List.setIfInBounds_toArray, List.set_cons_zero, List.set_cons_succ]
  refine wpAnyH_take (i := 5) (v := ?_) rfl (by kernel_rfl) (by kernel_rfl) (by kernel_rfl) (fun _ _ _ h => h) (Or.inl ⟨by rfl, ?_⟩) hHeld ?_
  rotate_left
  · (intro w hSw; (try dsimp only at hSw); go_simp <;> rfl)
  simp only [Act.put, List.getElem_toArray, List.getElem_cons_zero, List.getElem_cons_succ, List.setIfInBounds_toArray, List.set_cons_zero, List.set_cons_succ]
  refine wpAnyH_take (i := 6) (v := ?_) rfl (by kernel_rfl) (by kernel_rfl) (by kernel_rfl) (fun _ _ _ h => h) (Or.inl ⟨by rfl, ?_⟩) hHeld ?_
  rotate_left
  · (intro w hSw; (try dsimp only at hSw); go_simp <;> rfl)
  simp only [Act.put, List.getElem_toArray, List.getElem_cons_zero, List.getElem_cons_succ, List.setIfInBounds_toArray, List.set_cons_zero, List.set_cons_succ]
  have e1 : w1.drew.cell? ⟨eb, 2, none⟩ = some (.int .i64 e.obj) := cell_of_row _ _ 2 _ _ _ he1
  refine wpAnyH_ready (rs := [7]) (by kernel_rfl) (by simp) ?_
  refine AllReadyH.cons rfl (fun K hK => ?_) AllReadyH.nil
  go_simp
  refine hK.out _ _ hHeld (fun hHeld => ?_)
  clear hK K
  try simp only [Act.put, List.getElem_toArray, List.getElem_cons_zero, List.getElem_cons_succ, List.setIfInBounds_toArray, List.set_cons_zero, List.set_cons_succ]
  refine wpAnyH_ready (rs := [8]) (by kernel_rfl) (by simp) ?_
  refine AllReadyH.cons rfl (fun K hK => ?_) AllReadyH.nil
  go_simp
  refine (cl_put (w := w1.drew) (r := r1) ho1 hr1 (by rw [hc1.out]; (try simp only [List.length_append]); omega) p.obj e.obj).mono ?_
  rintro x w2 ⟨rfl, r2, ho2', hr2', hcx, hg2, hA2⟩
  have hc2 : Hid (r2.c = (l ++ (svar (dif p.th e.th) ++ (svar (dif p.obj e.obj))), s)) := by
    show _ = _
    rw [hcx, hc1.out]
    (try simp only [List.append_assoc])
  have hx2 : ∀ b, (b = ob ∨ r1.g = some b) → b ≠ eb ∧ b ≠ w.heap.size := by
    rintro b (rfl | hb)
    · exact ⟨hoe, hoa⟩
    · obtain ⟨cs, hcs⟩ := row_type hr1 hb
      refine ⟨?_, ?_⟩ <;> rintro rfl
      · rw [he1] at hcs; simp at hcs
      · rw [ha1] at hcs; simp at hcs
  have le1 := (Array.getElem?_eq_some_iff.1 he1).1
  have la1 := (Array.getElem?_eq_some_iff.1 ha1).1
  have he2' := (hA2.block eb le1 (fun h => (hx2 _ h).1 rfl)).trans he1
  have ha2' := (hA2.block w.heap.size la1 (fun h => (hx2 _ h).2 rfl)).trans ha1
  dsimp only
  refine hK.out _ _ (cell_of_row _ _ 2 _ _ _ ha2') (fun hHeld => ?_)
  clear hK K hcx
  try simp only [Act.put, List.getElem_toArray, List.getElem_cons_zero, List.getElem_cons_succ, List.setIfInBounds_toArray, List.set_cons_zero, List.set_cons_succ]
  refine wpAnyH_take (i := 9) (v := ?_) rfl (by kernel_rfl) (by kernel_rfl) (by kernel_rfl) (fun _ _ _ h => h) (Or.inl ⟨by rfl, ?_⟩) hHeld ?_
  rotate_left
  · (intro w hSw; (try dsimp only at hSw); go_simp <;> rfl)
  simp only [Act.put, List.getElem_toArray, List.getElem_cons_zero, List.getElem_cons_succ, List.setIfInBounds_toArray, List.set_cons_zero, List.set_cons_succ]
  refine wpAnyH_take (i := 10) (v := ?_) rfl (by kernel_rfl) (by kernel_rfl) (by kernel_rfl) (fun _ _ _ h => h) (Or.inl ⟨by rfl, ?_⟩) hHeld ?_
  rotate_left
  · (intro w hSw; (try dsimp only at hSw); go_simp <;> rfl)
  simp only [Act.put, List.getElem_toArray, List.getElem_cons_zero, List.getElem_cons_succ, List.setIfInBounds_toArray, List.set_cons_zero, List.set_cons_succ]
  have y1 : w2.cell? ⟨eb, 2, none⟩ = some (.int .i64 e.obj) := cell_of_row _ _ 2 _ _ _ he2'
  have yf1 := free_of_row he2' 2
  have hS2 := Away.setCell w2 ⟨eb, 2, none⟩ (.int .i64 e.obj)
  have he2 : (w2.setCell ⟨eb, 2, none⟩ (.int .i64 e.obj)).heap[eb]? = some (.cells #[.int .i64 e.th, .int .u8 (e.op : Int), .int .i64 e.obj, .int .i64 e.a, .int .i64 e.b] 70 (0, 0)) := by
    rw [set_blk he2' 2]; rfl
  have ha2 : (w2.setCell ⟨eb, 2, none⟩ (.int .i64 e.obj)).heap[w.heap.size]? = some (.cells #[.int .i64 p.th, .int .u8 (p.op : Int), .int .i64 p.obj, .int .i64 p.a, .int .i64 p.b] 70 (0, 0)) :=
    (hS2.block w.heap.size (by have := (Array.getElem?_eq_some_iff.1 ha2').1; exact this) (fun h => hea h.symm)).trans ha2'
  have ho2 := (hS2.block ob (Array.getElem?_eq_some_iff.1 ho2').1 hoe).trans ho2'
  have hrn2 : ∀ b, r2.g = some b → b ≠ eb := fun b hb => by
    obtain ⟨cs, hcs⟩ := row_type hr2' hb
    rintro rfl
    rw [he2'] at hcs; simp at hcs
  have hr2 := hr2'.away hS2 hrn2
  have HE2 := Lib.hid he2
  have HA2 := Lib.hid ha2
  have HO2 := Lib.hid ho2
  have HAw2 := Lib.hid hA2
  have HS2 := Lib.hid hS2
  clear he2 ha2 ho2 he2' ha2' ho2' hrn2 le1 la1 hx2 e1 a1 hA2 hS2
  refine wpAnyH_ready (rs := [11]) (by kernel_rfl) (by simp) ?_
  refine AllReadyH.cons rfl (fun K hK => ?_) AllReadyH.nil
  go_simp
  refine hK.out _ _ (cell_of_row _ _ 2 _ _ _ HA2.out) (fun hHeld => ?_)
  clear hK K y1 yf1 hHeld he1 ha1 ho1 hr1 hr2'
  try simp only [Act.put, List.getElem_toArray, List.getElem_cons_zero, List.getElem_cons_succ, List.setIfInBounds_toArray, List.set_cons_zero, List.set_cons_succ]
  refine wpAnyH_done (by kernel_rfl) ?_ _
  have he2 := HE2.out
  have ha2 := HA2.out
  have ho2 := HO2.out
  clear HE2 HA2 HO2
  have hg2x : Hid (r2.g = g0 ∨ ∃ b, r2.g = some b ∧ w.heap.size ≤ b) := by
    show _ ∨ _
    have hz := hAw1.out.size
    rcases hg2 with h | ⟨b, hb, hbz⟩
    · rw [h]; exact hg1x.out
    · exact .inr ⟨b, hb, Nat.le_trans hz hbz⟩
  have hAw2 : Hid (Away (fun b => b = ob ∨ b = eb ∨ g0 = some b) w (w2.setCell ⟨eb, 2, none⟩ (.int .i64 e.obj))) := by
    refine ((hAw1.out.drew.trans HAw2.out fun b h => ?_).trans HS2.out fun b h => .inl (.inr (.inl h)))
    rcases h with h | h
    · exact .inl (.inl h)
    · rcases hg1x.out with h' | ⟨b', hb', hz'⟩
      · rw [h'] at h; exact .inl (.inr (.inr h))
      · rw [h] at hb'; injection hb' with hb'; exact .inr (by omega)
  clear hg1x hAw1 HAw2 HS2 hg2 hc1
  generalize w2.setCell ⟨eb, 2, none⟩ (.int .i64 e.obj) = w2 at he2 ha2 ho2 hr2 hAw2 ⊢
  try go_wp2_with fail
  -- the number a
  have a2 : w2.drew.cell? ⟨w.heap.size, 3, none⟩ = some (.int .i64 p.a) := cell_of_row _ _ 3 _ _ _ ha2
  refine wp_region_held_drew (S := fun w' => w'.cell? ⟨w.heap.size, 3, none⟩ = some (.int .i64 p.a)) (by kernel_rfl) a2 (fun hHeld => ?_)
  refine wpAnyH_take (i := 0) (v := ?_) rfl (by kernel_rfl) (by kernel_rfl) (by kernel_rfl) (fun _ _ _ h => h) (Or.inl ⟨by rfl, ?_⟩) hHeld ?_
  rotate_left
  · (intro w hSw; (try dsimp only at hSw); go_simp <;> rfl)
  simp only [Act.put, List.getElem_toArray, List.getElem_cons_zero, List.getElem_cons_succ, List.setIfInBounds_toArray, List.set_cons_zero, List.set_cons_succ]
  refine wpAnyH_take (i := 1) (v := ?_) rfl (by kernel_rfl) (by kernel_rfl) (by kernel_rfl) (fun _ _ _ h => h) (Or.inl ⟨by rfl, ?_⟩) hHeld ?_
  rotate_left
  · (intro w hSw; (try dsimp only at hSw); go_simp <;> rfl)
  simp only [Act.put, List.getElem_toArray, List.getElem_cons_zero, List.getElem_cons_succ, List.setIfInBounds_toArray, List.set_cons_zero, List.set_cons_succ]
  refine wpAnyH_take (i := 2) (v := ?_) rfl (by kernel_rfl) (by kernel_rfl) (by kernel_rfl) (fun _ _ _ h => h) (Or.inl ⟨by rfl, ?_⟩) hHeld ?_
  rotate_left
  · (intro w hSw; (try dsimp only at hSw); go_simp <;> rfl)
  simp only [Act.put, List.getElem_toArray, List.getElem_cons_zero, List.getElem_cons_succ, List.setIfInBounds_toArray, List.set_cons_zero, List.set_cons_succ]
  refine wpAnyH_take (i := 3) (v := ?_) rfl (by kernel_rfl) (by kernel_rfl) (by kernel_rfl) (fun _ _ _ h => h) (Or.inl ⟨by rfl, ?_⟩) hHeld ?_
  rotate_left
  · (intro w hSw; (try dsimp only at hSw); go_simp <;> rfl)
  simp only [Act.put, List.getElem_toArray, List.getElem_cons_zero, List.getElem_cons_succ, List.setIfInBounds_toArray, List.set_cons_zero, List.set_cons_succ]
  refine wpAnyH_take (i := 4) (v := ?_) rfl (by kernel_rfl) (by kernel_rfl) (by kernel_rfl) (fun _ _ _ h => h) (Or.inl ⟨by rfl, ?_⟩) hHeld ?_
  rotate_left
  · (intro w hSw; (try dsimp only at hSw); go_simp <;> rfl)
  simp only [Act.put, List.getElem_toArray, List.getElem_cons_zero, List.getElem_cons_succ, List.setIfInBounds_toArray, List.set_cons_zero, List.set_cons_succ]
  refine wpAnyH_take (i := 5) (v := ?_) rfl (by kernel_rfl) (by kernel_rfl) (by kernel_rfl) (fun _ _ _ h => h) (Or.inl ⟨by rfl, ?_⟩) hHeld ?_
  rotate_left
  · (intro w hSw; (try dsimp only at hSw); go_simp <;> rfl)
  simp only [Act.put, List.getElem_toArray, List.getElem_cons_zero, List.getElem_cons_succ, List.setIfInBounds_toArray, List.set_cons_zero, List.set_cons_succ]
  refine wpAnyH_take (i := 6) (v := ?_) rfl (by kernel_rfl) (by kernel_rfl) (by kernel_rfl) (fun _ _ _ h => h) (Or.inl ⟨by rfl, ?_⟩) hHeld ?_
  rotate_left
  · (intro w hSw; (try dsimp only at hSw); go_simp <;> rfl)
  simp only [Act.put, List.getElem_toArray, List.getElem_cons_zero, List.getElem_cons_succ, List.setIfInBounds_toArray, List.set_cons_zero, List.set_cons_succ]
  have e2 : w2.drew.cell? ⟨eb, 3, none⟩ = some (.int .i64 e.a) := cell_of_row _ _ 3 _ _ _ he2
  refine wpAnyH_ready (rs := [7]) (by kernel_rfl) (by simp) ?_
  refine AllReadyH.cons rfl (fun K hK => ?_) AllReadyH.nil
  go_simp
  refine hK.out _ _ hHeld (fun hHeld => ?_)
  clear hK K
  try simp only [Act.put, List.getElem_toArray, List.getElem_cons_zero, List.getElem_cons_succ, List.setIfInBounds_toArray, List.set_cons_zero, List.set_cons_succ]
  refine wpAnyH_ready (rs := [8]) (by kernel_rfl) (by simp) ?_
  refine AllReadyH.cons rfl (fun K hK => ?_) AllReadyH.nil
  go_simp
  refine (cl_put (w := w2.drew) (r := r2) ho2 hr2 (by rw [hc2.out]; (try simp only [List.length_append]); omega) p.a e.a).mono ?_
  rintro x w3 ⟨rfl, r3, ho3', hr3', hcx, hg3, hA3⟩
  have hc3 : Hid (r3.c = (l ++ (svar (dif p.th e.th) ++ (svar (dif p.obj e.obj) ++ (svar (dif p.a e.a)))), s)) := by
    show _ = _
    rw [hcx, hc2.out]
    (try simp only [List.append_assoc])
  have hx3 : ∀ b, (b = ob ∨ r2.g = some b) → b ≠ eb ∧ b ≠ w.heap.size := by
    rintro b (rfl | hb)
    · exact ⟨hoe, hoa⟩
    · obtain ⟨cs, hcs⟩ := row_type hr2 hb
      refine ⟨?_, ?_⟩ <;> rintro rfl
      · rw [he2] at hcs; simp at hcs
      · rw [ha2] at hcs; simp at hcs
  have le2 := (Array.getElem?_eq_some_iff.1 he2).1
  have la2 := (Array.getElem?_eq_some_iff.1 ha2).1
  have he3' := (hA3.block eb le2 (fun h => (hx3 _ h).1 rfl)).trans he2
  have ha3' := (hA3.block w.heap.size la2 (fun h => (hx3 _ h).2 rfl)).trans ha2
  dsimp only
  refine hK.out _ _ (cell_of_row _ _ 3 _ _ _ ha3') (fun hHeld => ?_)
  clear hK K hcx
  try simp only [Act.put, List.getElem_toArray, List.getElem_cons_zero, List.getElem_cons_succ, List.setIfInBounds_toArray, List.set_cons_zero, List.set_cons_succ]
  refine wpAnyH_take (i := 9) (v := ?_) rfl (by kernel_rfl) (by kernel_rfl) (by kernel_rfl) (fun _ _ _ h => h) (Or.inl ⟨by rfl, ?_⟩) hHeld ?_
  rotate_left
  · (intro w hSw; (try dsimp only at hSw); go_simp <;> rfl)
  simp only [Act.put, List.getElem_toArray, List.getElem_cons_zero, List.getElem_cons_succ, List.setIfInBounds_toArray, List.set_cons_zero, List.set_cons_succ]
  refine wpAnyH_take (i := 10) (v := ?_) rfl (by kernel_rfl) (by kernel_rfl) (by kernel_rfl) (fun _ _ _ h => h) (Or.inl ⟨by rfl, ?_⟩) hHeld ?_
  rotate_left
  · (intro w hSw; (try dsimp only at hSw); go_simp <;> rfl)
  simp only [Act.put, List.getElem_toArray, List.getElem_cons_zero, List.getElem_cons_succ, List.setIfInBounds_toArray, List.set_cons_zero, List.set_cons_succ]
  have y2 : w3.cell? ⟨eb, 3, none⟩ = some (.int .i64 e.a) := cell_of_row _ _ 3 _ _ _ he3'
  have yf2 := free_of_row he3' 3
  have hS3 := Away.setCell w3 ⟨eb, 3, none⟩ (.int .i64 e.a)
  have he3 : (w3.setCell ⟨eb, 3, none⟩ (.int .i64 e.a)).heap[eb]? = some (.cells #[.int .i64 e.th, .int .u8 (e.op : Int), .int .i64 e.obj, .int .i64 e.a, .int .i64 e.b] 70 (0, 0)) := by
    rw [set_blk he3' 3]; rfl
  have ha3 : (w3.setCell ⟨eb, 3, none⟩ (.int .i64 e.a)).heap[w.heap.size]? = some (.cells #[.int .i64 p.th, .int .u8 (p.op : Int), .int .i64 p.obj, .int .i64 p.a, .int .i64 p.b] 70 (0, 0)) :=
    (hS3.block w.heap.size (by have := (Array.getElem?_eq_some_iff.1 ha3').1; exact this) (fun h => hea h.symm)).trans ha3'
  have ho3 := (hS3.block ob (Array.getElem?_eq_some_iff.1 ho3').1 hoe).trans ho3'
  have hrn3 : ∀ b, r3.g = some b → b ≠ eb := fun b hb => by
    obtain ⟨cs, hcs⟩ := row_type hr3' hb
    rintro rfl
    rw [he3'] at hcs; simp at hcs
  have hr3 := hr3'.away hS3 hrn3
  have HE3 := Lib.hid he3
  have HA3 := Lib.hid ha3
  have HO3 := Lib.hid ho3
  have HAw3 := Lib.hid hA3
  have HS3 := Lib.hid hS3
  clear he3 ha3 ho3 he3' ha3' ho3' hrn3 le2 la2 hx3 e2 a2 hA3 hS3
  refine wpAnyH_ready (rs := [11]) (by kernel_rfl) (by simp) ?_
  refine AllReadyH.cons rfl (fun K hK => ?_) AllReadyH.nil
  go_simp
  refine hK.out _ _ (cell_of_row _ _ 3 _ _ _ HA3.out) (fun hHeld => ?_)
  clear hK K y2 yf2 hHeld he2 ha2 ho2 hr2 hr3'
  try simp only [Act.put, List.getElem_toArray, List.getElem_cons_zero, List.getElem_cons_succ, List.setIfInBounds_toArray, List.set_cons_zero, List.set_cons_succ]
  refine wpAnyH_done (by kernel_rfl) ?_ _
  have he3 := HE3.out
  have ha3 := HA3.out
  have ho3 := HO3.out
  clear HE3 HA3 HO3
  have hg3x : Hid (r3.g = g0 ∨ ∃ b, r3.g = some b ∧ w.heap.size ≤ b) := by
    show _ ∨ _
    have hz := hAw2.out.size
    rcases hg3 with h | ⟨b, hb, hbz⟩
    · rw [h]; exact hg2x.out
    · exact .inr ⟨b, hb, Nat.le_trans hz hbz⟩
  have hAw3 : Hid (Away (fun b => b = ob ∨ b = eb ∨ g0 = some b) w (w3.setCell ⟨eb, 3, none⟩ (.int .i64 e.a))) := by
    refine ((hAw2.out.drew.trans HAw3.out fun b h => ?_).trans HS3.out fun b h => .inl (.inr (.inl h)))
    rcases h with h | h
    · exact .inl (.inl h)
    · rcases hg2x.out with h' | ⟨b', hb', hz'⟩
      · rw [h'] at h; exact .inl (.inr (.inr h))
      · rw [h] at hb'; injection hb' with hb'; exact .inr (by omega)
  clear hg2x hAw2 HAw3 HS3 hg3 hc2
  generalize w3.setCell ⟨eb, 3, none⟩ (.int .i64 e.a) = w3 at he3 ha3 ho3 hr3 hAw3 ⊢
  try go_wp2_with fail
  -- the number b
  have a3 : w3.drew.cell? ⟨w.heap.size, 4, none⟩ = some (.int .i64 p.b) := cell_of_row _ _ 4 _ _ _ ha3
  refine wp_region_held_drew (S := fun w' => w'.cell? ⟨w.heap.size, 4, none⟩ = some (.int .i64 p.b)) (by kernel_rfl) a3 (fun hHeld => ?_)
  refine wpAnyH_take (i := 0) (v := ?_) rfl (by kernel_rfl) (by kernel_rfl) (by kernel_rfl) (fun _ _ _ h => h) (Or.inl ⟨by rfl, ?_⟩) hHeld ?_
  rotate_left
  · (intro w hSw; (try dsimp only at hSw); go_simp <;> rfl)
  simp only [Act.put, List.getElem_toArray, List.getElem_cons_zero, List.getElem_cons_succ, List.setIfInBounds_toArray, List.set_cons_zero, List.set_cons_succ]
  refine wpAnyH_take (i := 1) (v := ?_) rfl (by kernel_rfl) (by kernel_rfl) (by kernel_rfl) (fun _ _ _ h => h) (Or.inl ⟨by rfl, ?_⟩) hHeld ?_
  rotate_left
  · (intro w hSw; (try dsimp only at hSw); go_simp <;> rfl)
  simp only [Act.put, List.getElem_toArray, List.getElem_cons_zero, List.getElem_cons_succ, List.setIfInBounds_toArray, List.set_cons_zero, List.set_cons_succ]
  refine wpAnyH_take (i := 2) (v := ?_) rfl (by kernel_rfl) (by kernel_rfl) (by kernel_rfl) (fun _ _ _ h => h) (Or.inl ⟨by rfl, ?_⟩) hHeld ?_
  rotate_left
  · (intro w hSw; (try dsimp only at hSw); go_simp <;> rfl)
  simp only [Act.put, List.getElem_toArray, List.getElem_cons_zero, List.getElem_cons_succ, List.setIfInBounds_toArray, List.set_cons_zero, List.set_cons_succ]
  refine wpAnyH_take (i := 3) (v := ?_) rfl (by kernel_rfl) (by kernel_rfl) (by kernel_rfl) (fun _ _ _ h => h) (Or.inl ⟨by rfl, ?_⟩) hHeld ?_
  rotate_left
  · (intro w hSw; (try dsimp only at hSw); go_simp <;> rfl)
  simp only [Act.put, List.getElem_toArray, List.getElem_cons_zero, List.getElem_cons_succ, List.setIfInBounds_toArray, List.set_cons_zero, List.set_cons_succ]
  refine wpAnyH_take (i := 4) (v := ?_) rfl (by kernel_rfl) (by kernel_rfl) (by kernel_rfl) (fun _ _ _ h => h) (Or.inl ⟨by rfl, ?_⟩) hHeld ?_
  rotate_left
  · (intro w hSw; (try dsimp only at hSw); go_simp <;> rfl)
  simp only [Act.put, List.getElem_toArray, List.getElem_cons_zero, List.getElem_cons_succ, List.setIfInBounds_toArray, List.set_cons_zero, List.set_cons_succ]
  refine wpAnyH_take (i := 5) (v := ?_) rfl (by kernel_rfl) (by kernel_rfl) (by kernel_rfl) (fun _ _ _ h => h) (Or.inl ⟨by rfl, ?_⟩) hHeld ?_
  rotate_left
  · (intro w hSw; (try dsimp only at hSw); go_simp <;> rfl)
  simp only [Act.put, List.getElem_toArray, List.getElem_cons_zero, List.getElem_cons_succ, List.setIfInBounds_toArray, List.set_cons_zero, List.set_cons_succ]
  refine wpAnyH_take (i := 6) (v := ?_) rfl (by kernel_rfl) (by kernel_rfl) (by kernel_rfl) (fun _ _ _ h => h) (Or.inl ⟨by rfl, ?_⟩) hHeld ?_
  rotate_left
  · (intro w hSw; (try dsimp only at hSw); go_simp <;> rfl)
  simp only [Act.put, List.getElem_toArray, List.getElem_cons_zero, List.getElem_cons_succ, List.setIfInBounds_toArray, List.set_cons_zero, List.set_cons_succ]
  have e3 : w3.drew.cell? ⟨eb, 4, none⟩ = some (.int .i64 e.b) := cell_of_row _ _ 4 _ _ _ he3
  refine wpAnyH_ready (rs := [7]) (by kernel_rfl) (by simp) ?_
  refine AllReadyH.cons rfl (fun K hK => ?_) AllReadyH.nil
  go_simp
  refine hK.out _ _ hHeld (fun hHeld => ?_)
  clear hK K
  try simp only [Act.put, List.getElem_toArray, List.getElem_cons_zero, List.getElem_cons_succ, List.setIfInBounds_toArray, List.set_cons_zero, List.set_cons_succ]
  refine wpAnyH_ready (rs := [8]) (by kernel_rfl) (by simp) ?_
  refine AllReadyH.cons rfl (fun K hK => ?_) AllReadyH.nil
  go_simp
  refine (cl_put (w := w3.drew) (r := r3) ho3 hr3 (by rw [hc3.out]; (try simp only [List.length_append]); omega) p.b e.b).mono ?_
  rintro x w4 ⟨rfl, r4, ho4', hr4', hcx, hg4, hA4⟩
  have hc4 : Hid (r4.c = (l ++ (svar (dif p.th e.th) ++ (svar (dif p.obj e.obj) ++ (svar (dif p.a e.a) ++ (svar (dif p.b e.b))))), s)) := by
    show _ = _
    rw [hcx, hc3.out]
    (try simp only [List.append_assoc])
  have hx4 : ∀ b, (b = ob ∨ r3.g = some b) → b ≠ eb ∧ b ≠ w.heap.size := by
    rintro b (rfl | hb)
    · exact ⟨hoe, hoa⟩
    · obtain ⟨cs, hcs⟩ := row_type hr3 hb
      refine ⟨?_, ?_⟩ <;> rintro rfl
      · rw [he3] at hcs; simp at hcs
      · rw [ha3] at hcs; simp at hcs
  have le3 := (Array.getElem?_eq_some_iff.1 he3).1
  have la3 := (Array.getElem?_eq_some_iff.1 ha3).1
  have he4' := (hA4.block eb le3 (fun h => (hx4 _ h).1 rfl)).trans he3
  have ha4' := (hA4.block w.heap.size la3 (fun h => (hx4 _ h).2 rfl)).trans ha3
  dsimp only
  refine hK.out _ _ (cell_of_row _ _ 4 _ _ _ ha4') (fun hHeld => ?_)
  clear hK K hcx
  try simp only [Act.put, List.getElem_toArray, List.getElem_cons_zero, List.getElem_cons_succ, List.setIfInBounds_toArray, List.set_cons_zero, List.set_cons_succ]
  refine wpAnyH_take (i := 9) (v := ?_) rfl (by kernel_rfl) (by kernel_rfl) (by kernel_rfl) (fun _ _ _ h => h) (Or.inl ⟨by rfl, ?_⟩) hHeld ?_
  rotate_left
  · (intro w hSw; (try dsimp only at hSw); go_simp <;> rfl)
  simp only [Act.put, List.getElem_toArray, List.getElem_cons_zero, List.getElem_cons_succ, List.setIfInBounds_toArray, List.set_cons_zero, List.set_cons_succ]
  refine wpAnyH_take (i := 10) (v := ?_) rfl (by kernel_rfl) (by kernel_rfl) (by kernel_rfl) (fun _ _ _ h => h) (Or.inl ⟨by rfl, ?_⟩) hHeld ?_
  rotate_left
  · (intro w hSw; (try dsimp only at hSw); go_simp <;> rfl)
  simp only [Act.put, List.getElem_toArray, List.getElem_cons_zero, List.getElem_cons_succ, List.setIfInBounds_toArray, List.set_cons_zero, List.set_cons_succ]
  have y3 : w4.cell? ⟨eb, 4, none⟩ = some (.int .i64 e.b) := cell_of_row _ _ 4 _ _ _ he4'
  have yf3 := free_of_row he4' 4
  have hS4 := Away.setCell w4 ⟨eb, 4, none⟩ (.int .i64 e.b)
  have he4 : (w4.setCell ⟨eb, 4, none⟩ (.int .i64 e.b)).heap[eb]? = some (.cells #[.int .i64 e.th, .int .u8 (e.op : Int), .int .i64 e.obj, .int .i64 e.a, .int .i64 e.b] 70 (0, 0)) := by
    rw [set_blk he4' 4]; rfl
  have ha4 : (w4.setCell ⟨eb, 4, none⟩ (.int .i64 e.b)).heap[w.heap.size]? = some (.cells #[.int .i64 p.th, .int .u8 (p.op : Int), .int .i64 p.obj, .int .i64 p.a, .int .i64 p.b] 70 (0, 0)) :=
    (hS4.block w.heap.size (by have := (Array.getElem?_eq_some_iff.1 ha4').1; exact this) (fun h => hea h.symm)).trans ha4'
  have ho4 := (hS4.block ob (Array.getElem?_eq_some_iff.1 ho4').1 hoe).trans ho4'
  have hrn4 : ∀ b, r4.g = some b → b ≠ eb := fun b hb => by
    obtain ⟨cs, hcs⟩ := row_type hr4' hb
    rintro rfl
    rw [he4'] at hcs; simp at hcs
  have hr4 := hr4'.away hS4 hrn4
  have HE4 := Lib.hid he4
  have HA4 := Lib.hid ha4
  have HO4 := Lib.hid ho4
  have HAw4 := Lib.hid hA4
  have HS4 := Lib.hid hS4
  clear he4 ha4 ho4 he4' ha4' ho4' hrn4 le3 la3 hx4 e3 a3 hA4 hS4
  refine wpAnyH_ready (rs := [11]) (by kernel_rfl) (by simp) ?_
  refine AllReadyH.cons rfl (fun K hK => ?_) AllReadyH.nil
  go_simp
  refine hK.out _ _ (cell_of_row _ _ 4 _ _ _ HA4.out) (fun hHeld => ?_)
  clear hK K y3 yf3 hHeld he3 ha3 ho3 hr3 hr4'
  try simp only [Act.put, List.getElem_toArray, List.getElem_cons_zero, List.getElem_cons_succ, List.setIfInBounds_toArray, List.set_cons_zero, List.set_cons_succ]
  refine wpAnyH_done (by kernel_rfl) ?_ _
  have he4 := HE4.out
  have ha4 := HA4.out
  have ho4 := HO4.out
  clear HE4 HA4 HO4
  have hg4x : Hid (r4.g = g0 ∨ ∃ b, r4.g = some b ∧ w.heap.size ≤ b) := by
    show _ ∨ _
    have hz := hAw3.out.size
    rcases hg4 with h | ⟨b, hb, hbz⟩
    · rw [h]; exact hg3x.out
    · exact .inr ⟨b, hb, Nat.le_trans hz hbz⟩
  have hAw4 : Hid (Away (fun b => b = ob ∨ b = eb ∨ g0 = some b) w (w4.setCell ⟨eb, 4, none⟩ (.int .i64 e.b))) := by
    refine ((hAw3.out.drew.trans HAw4.out fun b h => ?_).trans HS4.out fun b h => .inl (.inr (.inl h)))
    rcases h with h | h
    · exact .inl (.inl h)
    · rcases hg3x.out with h' | ⟨b', hb', hz'⟩
      · rw [h'] at h; exact .inl (.inr (.inr h))
      · rw [h] at hb'; injection hb' with hb'; exact .inr (by omega)
  clear hg3x hAw3 HAw4 HS4 hg4 hc3
  generalize w4.setCell ⟨eb, 4, none⟩ (.int .i64 e.b) = w4 at he4 ha4 ho4 hr4 hAw4 ⊢
  try go_wp2_with fail
  go_end0
  exact ⟨rfl, r4, ho4, hr4, hc4.out, hg4x.out, hAw4.out⟩
end Go.Proofs.Ytebpdlggkncliaa
