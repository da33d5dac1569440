/-
  eachNumber with the closure that gets.
-/
import Derived.Test.YtebpdlggkncliaaK5
set_option linter.unusedVariables false
set_option linter.unusedSimpArgs false
namespace Go.Proofs.Ytebpdlggkncliaa
open Go.RowKit
open Go.Lib (byteCells byteCells_length byteCells_append uvarint)

set_option maxRecDepth 100000 in
set_option maxHeartbeats 2000000 in
theorem each_get {w : World} {w0 : World} {fb bb tb eb : Nat} {A : Option Addr} {n c : Nat} {l : List UInt8} {k op : Nat} {p : Ev} (hI : IsB w0 A n c l) (hB : Below w0.heap.size w0 w) (hn : n ≤ 1000000) (hk : k ≤ n)
    (h1 : w0.heap.size ≤ fb) (h2 : w0.heap.size ≤ tb) (h3 : w0.heap.size ≤ eb)
    (hf : w.heap[fb]? = some (.cells #[.int .i64 0] 23 (0, 0))) (hb : w.heap[bb]? = some (.cells #[.slice A n c] 26 (0, 0))) (ht : w.heap[tb]? = some (.cells #[.int .i64 (k : Int)] 3 (0, 0)))
    (he : w.heap[eb]? = some (.cells #[.int .i64 0, .int .u8 (op : Int), .int .i64 0, .int .i64 0, .int .i64 0] 70 (0, 0))) :
    Calls Try.prog 89 #[.agg #[.int .i64 p.th, .int .u8 (p.op : Int), .int .i64 p.obj, .int .i64 p.a, .int .i64 p.b], .pointer (some ⟨eb, 0, none⟩), .func (.func 90) #[] #[.pointer (some ⟨fb, 0, none⟩), .pointer (some ⟨bb, 0, none⟩), .pointer (some ⟨tb, 0, none⟩)]] w fun x w' => x = .returned (.tuple #[]) ∧
      w'.heap[eb]? = some (.cells #[.int .i64 (stv l (stpN l 0 (k, 0)) p.th), .int .u8 (op : Int), .int .i64 (stv l (stpN l 1 (k, 0)) p.obj), .int .i64 (stv l (stpN l 2 (k, 0)) p.a), .int .i64 (stv l (stpN l 3 (k, 0)) p.b)] 70 (0, 0)) ∧
      w'.heap[fb]? = some (.cells #[.int .i64 ((stpN l 4 (k, 0)).2 : Int)] 23 (0, 0)) ∧ w'.heap[tb]? = some (.cells #[.int .i64 ((stpN l 4 (k, 0)).1 : Int)] 3 (0, 0)) ∧
      Away (fun b => b = fb ∨ b = tb ∨ b = eb) w w' := by
  have lf := (Array.getElem?_eq_some_iff.1 hf).1
  have lt := (Array.getElem?_eq_some_iff.1 ht).1
  have lb := (Array.getElem?_eq_some_iff.1 hb).1
  have le := (Array.getElem?_eq_some_iff.1 he).1
  have n1 : eb ≠ fb := by rintro rfl; rw [hf] at he; simp at he
  have n2 : eb ≠ tb := by rintro rfl; rw [ht] at he; simp at he
  have n3 : bb ≠ fb := by rintro rfl; rw [hf] at hb; simp at hb
  have n4 : bb ≠ tb := by rintro rfl; rw [ht] at hb; simp at hb
  have n5 : bb ≠ eb := by rintro rfl; rw [he] at hb; simp at hb
  have hE0 : Hid (¬ (eb = fb ∨ eb = tb)) := fun h => h.elim n1 n2
  have hE1 : Hid (¬ (w.heap.size = fb ∨ w.heap.size = tb)) := fun h => h.elim (fun h => by omega) (fun h => by omega)
  have hE2 : Hid (¬ (bb = fb ∨ bb = tb)) := fun h => h.elim n3 n4
  have hE3 : Hid (∀ b, (b = fb ∨ b = tb) → w0.heap.size ≤ b) := fun b h => by rcases h with rfl | rfl; exact h1; exact h2
  have hE4 : Hid (bb ≠ eb) := n5
  have hE5 : Hid (fb ≠ eb) := fun e => n1 e.symm
  have hE6 : Hid (tb ≠ eb) := fun e => n2 e.symm
  have hE7 : Hid (w0.heap.size ≤ eb) := h3
  have hea : Hid (eb ≠ w.heap.size) := fun e => by omega
  have hB0 : Below w.heap.size w (w.alloc (.cells #[.int .i64 p.th, .int .u8 (p.op : Int), .int .i64 p.obj, .int .i64 p.a, .int .i64 p.b] 70 (0, 0))) := (Below.refl _ w).alloc (Nat.le_refl _) _
  have hf0 : Hid ((w.alloc (.cells #[.int .i64 p.th, .int .u8 (p.op : Int), .int .i64 p.obj, .int .i64 p.a, .int .i64 p.b] 70 (0, 0))).heap[fb]? = some (.cells #[.int .i64 ((stpN l 0 (k, 0)).2 : Int)] 23 (0, 0))) := (hB0.block fb lf).trans hf
  have hb0 := Lib.hid ((hB0.block bb lb).trans hb)
  have ht0 : Hid ((w.alloc (.cells #[.int .i64 p.th, .int .u8 (p.op : Int), .int .i64 p.obj, .int .i64 p.a, .int .i64 p.b] 70 (0, 0))).heap[tb]? = some (.cells #[.int .i64 ((stpN l 0 (k, 0)).1 : Int)] 3 (0, 0))) := (hB0.block tb lt).trans ht
  have he0 := Lib.hid ((hB0.block eb le).trans he)
  have ha0 : (w.alloc (.cells #[.int .i64 p.th, .int .u8 (p.op : Int), .int .i64 p.obj, .int .i64 p.a, .int .i64 p.b] 70 (0, 0))).heap[w.heap.size]? = some (.cells #[.int .i64 p.th, .int .u8 (p.op : Int), .int .i64 p.obj, .int .i64 p.a, .int .i64 p.b] 70 (0, 0)) := heap_alloc_new _ _
  have hk0 : Hid ((stpN l 0 (k, 0)).1 ≤ n) := hk
  have hAw0 : Hid (Away (fun b => b = fb ∨ b = tb ∨ b = eb) w (w.alloc (.cells #[.int .i64 p.th, .int .u8 (p.op : Int), .int .i64 p.obj, .int .i64 p.a, .int .i64 p.b] 70 (0, 0)))) := Away.of_new hB0 _
  replace hB0 := Lib.hid (bstep0 hB hB0)
  clear hf hb ht he hk n1 n2 n3 n4 n5 lf lt lb le h1 h2 h3 hB
  go_enter Try.func89, Try.ntmps89
  go_wp2_with fail
  generalize w.alloc (.cells #[.int .i64 p.th, .int .u8 (p.op : Int), .int .i64 p.obj, .int .i64 p.a, .int .i64 p.b] 70 (0, 0)) = wa at hf0 hb0 ht0 he0 ha0 hB0 hAw0 ⊢
  -- the number th
  have a0 : wa.drew.cell? ⟨w.heap.size, 0, none⟩ = some (.int .i64 p.th) := cell_of_row _ _ 0 _ _ _ ha0
  refine wp_region_held_drew (S := fun w' => w'.cell? ⟨w.heap.size, 0, none⟩ = some (.int .i64 p.th)) (by kernel_rfl) a0 (fun hHeld => ?_)
  refine wpAnyH_take (i := 0) (v := ?_) rfl (by kernel_rfl) (by kernel_rfl) (by kernel_rfl) (fun _ _ _ h => h) (Or.inl ⟨by rfl, ?_⟩) hHeld ?_
  rotate_left
  · (intro w hSw; (try dsimp only at hSw); go_simp <;> rfl)
  simp only [Act.put, List.getElem_toArray, List.getElem_cons_zero, List.getElem_cons_succ, List.setIfInBounds_toArray, List.set_cons_zero, List.set_cons_succ]
  refine wpAnyH_take (i := 1) (v := ?_) rfl (by kernel_rfl) (by kernel_rfl) (by kernel_rfl) (fun _ _ _ h => h) (Or.inl ⟨by rfl, ?_⟩) hHeld ?_
  rotate_left
  · (intro w hSw; (try dsimp only at hSw); go_simp <;> rfl)
  simp only [Act.put, List.getElem_toArray, List.getElem_cons_zero, List.getElem_cons_succ, List.setIfInBounds_toArray, List.set_cons_zero, List.set_cons_succ]
  refine wpAnyH_take (i := 2) (v := ?_) rfl (by kernel_rfl) (by kernel_rfl) (by kernel_rfl) (fun _ _ _ h => h) (Or.inl ⟨by rfl, ?_⟩) hHeld ?_
  rotate_left
  · (intro w hSw; (try dsimp only at hSw); go_simp <;> rfl)
  simp only [Act.put, List.getElem_toArray, List.getElem_cons_zero, List.getElem_cons_succ, List.setIfInBounds_toArray, List.set_cons_zero, List.set_cons_succ]
  refine wpAnyH_take (i := 3) (v := ?_) rfl (by kernel_rfl) (by kernel_rfl) (by kernel_rfl) (fun _ _ _ h => h) (Or.inl ⟨by rfl, ?_⟩) hHeld ?_
  rotate_left
  · (intro w hSw; (try dsimp only at hSw); go_simp <;> rfl)
  simp only [Act.put, List.getElem_toArray, List.getElem_cons_zero, List.getElem_cons_succ, List.setIfInBounds_toArray, List.set_cons_zero, List.set_cons_succ]
  refine wpAnyH_take (i := 4) (v := ?_) rfl (by kernel_rfl) (by kernel_rfl) (by kernel_rfl) (fun _ _ _ h => h) (Or.inl ⟨by rfl, ?_⟩) hHeld ?_
  rotate_left
  · (intro w hSw; (try dsimp only at hSw); go_simp <;> rfl)
  simp only [Act.put, List.getElem_toArray, List.getElem_cons_zero, List.getElem_cons_succ, List.setIfInBounds_toArray, List.set_cons_zero, List.set_cons_succ]
  refine wpAnyH_take (i := 5) (v := ?_) rfl (by kernel_rfl) (by kernel_rfl) (by kernel_rfl) (fun _ _ _ h => h) (Or.inl ⟨by rfl, ?_⟩) hHeld ?_
  rotate_left
  · (intro w hSw; (try dsimp only at hSw); go_simp <;> rfl)
  simp only [Act.put, List.getElem_toArray, List.getElem_cons_zero, List.getElem_cons_succ, List.setIfInBounds_toArray, List.set_cons_zero, List.set_cons_succ]
  refine wpAnyH_take (i := 6) (v := ?_) rfl (by kernel_rfl) (by kernel_rfl) (by kernel_rfl) (fun _ _ _ h => h) (Or.inl ⟨by rfl, ?_⟩) hHeld ?_
  rotate_left
  · (intro w hSw; (try dsimp only at hSw); go_simp <;> rfl)
  simp only [Act.put, List.getElem_toArray, List.getElem_cons_zero, List.getElem_cons_succ, List.setIfInBounds_toArray, List.set_cons_zero, List.set_cons_succ]
  have e0 : wa.drew.cell? ⟨eb, 0, none⟩ = some (.int .i64 0) := cell_of_row _ _ 0 _ _ _ he0.out
  refine wpAnyH_ready (rs := [7]) (by kernel_rfl) (by simp) ?_
  refine AllReadyH.cons rfl (fun K hK => ?_) AllReadyH.nil
  go_simp
  refine hK.out _ _ hHeld (fun hHeld => ?_)
  clear hK K
  try simp only [Act.put, List.getElem_toArray, List.getElem_cons_zero, List.getElem_cons_succ, List.setIfInBounds_toArray, List.set_cons_zero, List.set_cons_succ]
  refine wpAnyH_ready (rs := [8]) (by kernel_rfl) (by simp) ?_
  refine AllReadyH.cons rfl (fun K hK => ?_) AllReadyH.nil
  go_simp
  refine (cl_get (s := (stpN l 0 (k, 0))) hI hB0.out.drew hn hk0.out hf0.out hb0.out ht0.out p.th (.int .i64 0)).mono ?_
  rintro x w1 ⟨rfl, hf1', ht1', hA1⟩
  have he1' := (hA1.block eb (Array.getElem?_eq_some_iff.1 he0.out).1 (fun h => hE0.out h)).trans he0.out
  have ha1' := (hA1.block w.heap.size (Array.getElem?_eq_some_iff.1 ha0).1 (fun h => hE1.out h)).trans ha0
  have hb1' := (hA1.block bb (Array.getElem?_eq_some_iff.1 hb0.out).1 (fun h => hE2.out h)).trans hb0.out
  have hB1' := hB0.out.drew.trans (hA1.below (B := w0.heap.size) hB0.out.size fun b h => hE3.out b h)
  have hAw1' := hAw0.out.drew.trans hA1 fun b h => .inl (h.elim .inl fun h => .inr (.inl h))
  have hk1 : Hid ((stpN l 1 (k, 0)).1 ≤ n) := by
    have := stp_le (l := l) (s := (stpN l 0 (k, 0))) (by rw [hI.len]; exact hk0.out)
    rw [hI.len] at this
    exact this
  dsimp only
  refine hK.out _ _ (cell_of_row _ _ 0 _ _ _ ha1') (fun hHeld => ?_)
  clear hK K
  try simp only [Act.put, List.getElem_toArray, List.getElem_cons_zero, List.getElem_cons_succ, List.setIfInBounds_toArray, List.set_cons_zero, List.set_cons_succ]
  refine wpAnyH_take (i := 9) (v := ?_) rfl (by kernel_rfl) (by kernel_rfl) (by kernel_rfl) (fun _ _ _ h => h) (Or.inl ⟨by rfl, ?_⟩) hHeld ?_
  rotate_left
  · (intro w hSw; (try dsimp only at hSw); go_simp <;> rfl)
  simp only [Act.put, List.getElem_toArray, List.getElem_cons_zero, List.getElem_cons_succ, List.setIfInBounds_toArray, List.set_cons_zero, List.set_cons_succ]
  refine wpAnyH_take (i := 10) (v := ?_) rfl (by kernel_rfl) (by kernel_rfl) (by kernel_rfl) (fun _ _ _ h => h) (Or.inl ⟨by rfl, ?_⟩) hHeld ?_
  rotate_left
  · (intro w hSw; (try dsimp only at hSw); go_simp <;> rfl)
  simp only [Act.put, List.getElem_toArray, List.getElem_cons_zero, List.getElem_cons_succ, List.setIfInBounds_toArray, List.set_cons_zero, List.set_cons_succ]
  have y0 : w1.cell? ⟨eb, 0, none⟩ = some (.int .i64 0) := cell_of_row _ _ 0 _ _ _ he1'
  have yf0 := free_of_row he1' 0
  obtain ⟨v0, hv0⟩ : ∃ v, v = stv l (stpN l 0 (k, 0)) p.th := ⟨_, rfl⟩
  rw [← hv0]
  have hS1 := Away.setCell w1 ⟨eb, 0, none⟩ (.int .i64 v0)
  have he1 : Hid ((w1.setCell ⟨eb, 0, none⟩ (.int .i64 v0)).heap[eb]? = some (.cells #[.int .i64 (stv l (stpN l 0 (k, 0)) p.th), .int .u8 (op : Int), .int .i64 0, .int .i64 0, .int .i64 0] 70 (0, 0))) := by
    show _ = _
    rw [set_blk he1' 0, hv0]; rfl
  have HV0 := Lib.hid hv0
  have ha1 : (w1.setCell ⟨eb, 0, none⟩ (.int .i64 v0)).heap[w.heap.size]? = some (.cells #[.int .i64 p.th, .int .u8 (p.op : Int), .int .i64 p.obj, .int .i64 p.a, .int .i64 p.b] 70 (0, 0)) :=
    (hS1.block w.heap.size (by have := (Array.getElem?_eq_some_iff.1 ha1').1; exact this) (fun h => hea.out h.symm)).trans ha1'
  have hb1 := Lib.hid ((hS1.block bb (Array.getElem?_eq_some_iff.1 hb1').1 hE4.out).trans hb1')
  have hf1 := Lib.hid ((hS1.block fb (Array.getElem?_eq_some_iff.1 hf1').1 hE5.out).trans hf1')
  have ht1 := Lib.hid ((hS1.block tb (Array.getElem?_eq_some_iff.1 ht1').1 hE6.out).trans ht1')
  have hB1 := Lib.hid (hB1'.trans (hS1.below (B := w0.heap.size) hB1'.size fun b h => by subst h; exact hE7.out))
  have hAw1 := Lib.hid (hAw1'.trans hS1 fun b h => .inl (.inr (.inr h)))
  have HA1 := Lib.hid ha1
  clear ha1 he1' ha1' hb1' hf1' ht1' hB1' hAw1' hS1 hA1 hAw0 hB0 hf0 ht0 hb0 he0 hv0
  refine wpAnyH_ready (rs := [11]) (by kernel_rfl) (by simp) ?_
  refine AllReadyH.cons rfl (fun K hK => ?_) AllReadyH.nil
  go_simp
  refine hK.out _ _ (cell_of_row _ _ 0 _ _ _ HA1.out) (fun hHeld => ?_)
  clear hK K y0 yf0 hHeld e0 a0 ha0
  try simp only [Act.put, List.getElem_toArray, List.getElem_cons_zero, List.getElem_cons_succ, List.setIfInBounds_toArray, List.set_cons_zero, List.set_cons_succ]
  refine wpAnyH_done (by kernel_rfl) ?_ _
  have ha1 := HA1.out
  clear HA1
  generalize w1.setCell ⟨eb, 0, none⟩ (.int .i64 v0) = w1 at he1 ha1 hb1 hf1 ht1 hB1 hAw1 ⊢
  try go_wp2_with fail
  -- the number obj
  have a1 : w1.drew.cell? ⟨w.heap.size, 2, none⟩ = some (.int .i64 p.obj) := cell_of_row _ _ 2 _ _ _ ha1
  refine wp_region_held_drew (S := fun w' => w'.cell? ⟨w.heap.size, 2, none⟩ = some (.int .i64 p.obj)) (by kernel_rfl) a1 (fun hHeld => ?_)
  refine wpAnyH_take (i := 0) (v := ?_) rfl (by kernel_rfl) (by kernel_rfl) (by kernel_rfl) (fun _ _ _ h => h) (Or.inl ⟨by rfl, ?_⟩) hHeld ?_
  rotate_left
  · (intro w hSw; (try dsimp only at hSw); go_simp <;> rfl)
  simp only [Act.put, List.getElem_toArray, List.getElem_cons_zero, List.getElem_cons_succ, List.setIfInBounds_toArray, List.set_cons_zero, List.set_cons_succ]
  refine wpAnyH_take (i := 1) (v := ?_) rfl (by kernel_rfl) (by kernel_rfl) (by kernel_rfl) (fun _ _ _ h => h) (Or.inl ⟨by rfl, ?_⟩) hHeld ?_
  rotate_left
  · (intro w hSw; (try dsimp only at hSw); go_simp <;> rfl)
  simp only [Act.put, List.getElem_toArray, List.getElem_cons_zero, List.getElem_cons_succ, List.setIfInBounds_toArray, List.set_cons_zero, List.set_cons_succ]
  refine wpAnyH_take (i := 2) (v := ?_) rfl (by kernel_rfl) (by kernel_rfl) (by kernel_rfl) (fun _ _ _ h => h) (Or.inl ⟨by rfl, ?_⟩) hHeld ?_
  rotate_left
  · (intro w hSw; (try dsimp only at hSw); go_simp <;> rfl)
  simp only [Act.put, List.getElem_toArray, List.getElem_cons_zero, List.getElem_cons_succ, List.setIfInBounds_toArray, List.set_cons_zero, List.set_cons_succ]
  refine wpAnyH_take (i := 3) (v := ?_) rfl (by kernel_rfl) (by kernel_rfl) (by kernel_rfl) (fun _ _ _ h => h) (Or.inl ⟨by rfl, ?_⟩) hHeld ?_
  rotate_left
  · (intro w hSw; (try dsimp only at hSw); go_simp <;> rfl)
  simp only [Act.put, List.getElem_toArray, List.getElem_cons_zero, List.getElem_cons_succ, List.setIfInBounds_toArray, List.set_cons_zero, List.set_cons_succ]
  refine wpAnyH_take (i := 4) (v := ?_) rfl (by kernel_rfl) (by kernel_rfl) (by kernel_rfl) (fun _ _ _ h => h) (Or.inl ⟨by rfl, ?_⟩) hHeld ?_
  rotate_left
  · (intro w hSw; (try dsimp only at hSw); go_simp <;> rfl)
  simp only [Act.put, List.getElem_toArray, List.getElem_cons_zero, List.getElem_cons_succ, List.setIfInBounds_toArray, List.set_cons_zero, List.set_cons_succ]
  refine wpAnyH_take (i := 5) (v := ?_) rfl (by kernel_rfl) (by kernel_rfl) (by kernel_rfl) (fun _ _ _ h => h) (Or.inl ⟨by rfl, ?_⟩) hHeld ?_
  rotate_left
  · (intro w hSw; (try dsimp only at hSw); go_simp <;> rfl)
  simp only [Act.put, List.getElem_toArray, List.getElem_cons_zero, List.getElem_cons_succ, List.setIfInBounds_toArray, List.set_cons_zero, List.set_cons_succ]
  refine wpAnyH_take (i := 6) (v := ?_) rfl (by kernel_rfl) (by kernel_rfl) (by kernel_rfl) (fun _ _ _ h => h) (Or.inl ⟨by rfl, ?_⟩) hHeld ?_
  rotate_left
  · (intro w hSw; (try dsimp only at hSw); go_simp <;> rfl)
  simp only [Act.put, List.getElem_toArray, List.getElem_cons_zero, List.getElem_cons_succ, List.setIfInBounds_toArray, List.set_cons_zero, List.set_cons_succ]
  have e1 : w1.drew.cell? ⟨eb, 2, none⟩ = some (.int .i64 0) := cell_of_row _ _ 2 _ _ _ he1.out
  refine wpAnyH_ready (rs := [7]) (by kernel_rfl) (by simp) ?_
  refine AllReadyH.cons rfl (fun K hK => ?_) AllReadyH.nil
  go_simp
  refine hK.out _ _ hHeld (fun hHeld => ?_)
  clear hK K
  try simp only [Act.put, List.getElem_toArray, List.getElem_cons_zero, List.getElem_cons_succ, List.setIfInBounds_toArray, List.set_cons_zero, List.set_cons_succ]
  refine wpAnyH_ready (rs := [8]) (by kernel_rfl) (by simp) ?_
  refine AllReadyH.cons rfl (fun K hK => ?_) AllReadyH.nil
  go_simp
  refine (cl_get (s := (stpN l 1 (k, 0))) hI hB1.out.drew hn hk1.out hf1.out hb1.out ht1.out p.obj (.int .i64 0)).mono ?_
  rintro x w2 ⟨rfl, hf2', ht2', hA2⟩
  have he2' := (hA2.block eb (Array.getElem?_eq_some_iff.1 he1.out).1 (fun h => hE0.out h)).trans he1.out
  have ha2' := (hA2.block w.heap.size (Array.getElem?_eq_some_iff.1 ha1).1 (fun h => hE1.out h)).trans ha1
  have hb2' := (hA2.block bb (Array.getElem?_eq_some_iff.1 hb1.out).1 (fun h => hE2.out h)).trans hb1.out
  have hB2' := hB1.out.drew.trans (hA2.below (B := w0.heap.size) hB1.out.size fun b h => hE3.out b h)
  have hAw2' := hAw1.out.drew.trans hA2 fun b h => .inl (h.elim .inl fun h => .inr (.inl h))
  have hk2 : Hid ((stpN l 2 (k, 0)).1 ≤ n) := by
    have := stp_le (l := l) (s := (stpN l 1 (k, 0))) (by rw [hI.len]; exact hk1.out)
    rw [hI.len] at this
    exact this
  dsimp only
  refine hK.out _ _ (cell_of_row _ _ 2 _ _ _ ha2') (fun hHeld => ?_)
  clear hK K
  try simp only [Act.put, List.getElem_toArray, List.getElem_cons_zero, List.getElem_cons_succ, List.setIfInBounds_toArray, List.set_cons_zero, List.set_cons_succ]
  refine wpAnyH_take (i := 9) (v := ?_) rfl (by kernel_rfl) (by kernel_rfl) (by kernel_rfl) (fun _ _ _ h => h) (Or.inl ⟨by rfl, ?_⟩) hHeld ?_
  rotate_left
  · (intro w hSw; (try dsimp only at hSw); go_simp <;> rfl)
  simp only [Act.put, List.getElem_toArray, List.getElem_cons_zero, List.getElem_cons_succ, List.setIfInBounds_toArray, List.set_cons_zero, List.set_cons_succ]
  refine wpAnyH_take (i := 10) (v := ?_) rfl (by kernel_rfl) (by kernel_rfl) (by kernel_rfl) (fun _ _ _ h => h) (Or.inl ⟨by rfl, ?_⟩) hHeld ?_
  rotate_left
  · (intro w hSw; (try dsimp only at hSw); go_simp <;> rfl)
  simp only [Act.put, List.getElem_toArray, List.getElem_cons_zero, List.getElem_cons_succ, List.setIfInBounds_toArray, List.set_cons_zero, List.set_cons_succ]
  have y1 : w2.cell? ⟨eb, 2, none⟩ = some (.int .i64 0) := cell_of_row _ _ 2 _ _ _ he2'
  have yf1 := free_of_row he2' 2
  obtain ⟨v1, hv1⟩ : ∃ v, v = stv l (stpN l 1 (k, 0)) p.obj := ⟨_, rfl⟩
  rw [← hv1]
  have hS2 := Away.setCell w2 ⟨eb, 2, none⟩ (.int .i64 v1)
  have he2 : Hid ((w2.setCell ⟨eb, 2, none⟩ (.int .i64 v1)).heap[eb]? = some (.cells #[.int .i64 (stv l (stpN l 0 (k, 0)) p.th), .int .u8 (op : Int), .int .i64 (stv l (stpN l 1 (k, 0)) p.obj), .int .i64 0, .int .i64 0] 70 (0, 0))) := by
    show _ = _
    rw [set_blk he2' 2, hv1]; rfl
  have HV1 := Lib.hid hv1
  have ha2 : (w2.setCell ⟨eb, 2, none⟩ (.int .i64 v1)).heap[w.heap.size]? = some (.cells #[.int .i64 p.th, .int .u8 (p.op : Int), .int .i64 p.obj, .int .i64 p.a, .int .i64 p.b] 70 (0, 0)) :=
    (hS2.block w.heap.size (by have := (Array.getElem?_eq_some_iff.1 ha2').1; exact this) (fun h => hea.out h.symm)).trans ha2'
  have hb2 := Lib.hid ((hS2.block bb (Array.getElem?_eq_some_iff.1 hb2').1 hE4.out).trans hb2')
  have hf2 := Lib.hid ((hS2.block fb (Array.getElem?_eq_some_iff.1 hf2').1 hE5.out).trans hf2')
  have ht2 := Lib.hid ((hS2.block tb (Array.getElem?_eq_some_iff.1 ht2').1 hE6.out).trans ht2')
  have hB2 := Lib.hid (hB2'.trans (hS2.below (B := w0.heap.size) hB2'.size fun b h => by subst h; exact hE7.out))
  have hAw2 := Lib.hid (hAw2'.trans hS2 fun b h => .inl (.inr (.inr h)))
  have HA2 := Lib.hid ha2
  clear ha2 he2' ha2' hb2' hf2' ht2' hB2' hAw2' hS2 hA2 hAw1 hB1 hf1 ht1 hb1 he1 hv1
  refine wpAnyH_ready (rs := [11]) (by kernel_rfl) (by simp) ?_
  refine AllReadyH.cons rfl (fun K hK => ?_) AllReadyH.nil
  go_simp
  refine hK.out _ _ (cell_of_row _ _ 2 _ _ _ HA2.out) (fun hHeld => ?_)
  clear hK K y1 yf1 hHeld e1 a1 ha1
  try simp only [Act.put, List.getElem_toArray, List.getElem_cons_zero, List.getElem_cons_succ, List.setIfInBounds_toArray, List.set_cons_zero, List.set_cons_succ]
  refine wpAnyH_done (by kernel_rfl) ?_ _
  have ha2 := HA2.out
  clear HA2
  generalize w2.setCell ⟨eb, 2, none⟩ (.int .i64 v1) = w2 at he2 ha2 hb2 hf2 ht2 hB2 hAw2 ⊢
  try go_wp2_with fail
  -- the number a
  have a2 : w2.drew.cell? ⟨w.heap.size, 3, none⟩ = some (.int .i64 p.a) := cell_of_row _ _ 3 _ _ _ ha2
  refine wp_region_held_drew (S := fun w' => w'.cell? ⟨w.heap.size, 3, none⟩ = some (.int .i64 p.a)) (by kernel_rfl) a2 (fun hHeld => ?_)
  refine wpAnyH_take (i := 0) (v := ?_) rfl (by kernel_rfl) (by kernel_rfl) (by kernel_rfl) (fun _ _ _ h => h) (Or.inl ⟨by rfl, ?_⟩) hHeld ?_
  rotate_left
  · (intro w hSw; (try dsimp only at hSw); go_simp <;> rfl)
  simp only [Act.put, List.getElem_toArray, List.getElem_cons_zero, List.getElem_cons_succ, List.setIfInBounds_toArray, List.set_cons_zero, List.set_cons_succ]
  refine wpAnyH_take (i := 1) (v := ?_) rfl (by kernel_rfl) (by kernel_rfl) (by kernel_rfl) (fun _ _ _ h => h) (Or.inl ⟨by rfl, ?_⟩) hHeld ?_
  rotate_left
  · (intro w hSw; (try dsimp only at hSw); go_simp <;> rfl)
  simp only [Act.put, List.getElem_toArray, List.getElem_cons_zero, List.getElem_cons_succ, List.setIfInBounds_toArray, List.set_cons_zero, List.set_cons_succ]
  refine wpAnyH_take (i := 2) (v := ?_) rfl (by kernel_rfl) (by kernel_rfl) (by kernel_rfl) (fun _ _ _ h => h) (Or.inl ⟨by rfl, ?_⟩) hHeld ?_
  rotate_left
  · (intro w hSw; (try dsimp only at hSw); go_simp <;> rfl)
  simp only [Act.put, List.getElem_toArray, List.getElem_cons_zero, List.getElem_cons_succ, List.setIfInBounds_toArray, List.set_cons_zero, List.set_cons_succ]
  refine wpAnyH_take (i := 3) (v := ?_) rfl (by kernel_rfl) (by kernel_rfl) (by kernel_rfl) (fun _ _ _ h => h) (Or.inl ⟨by rfl, ?_⟩) hHeld ?_
  rotate_left
  · (intro w hSw; (try dsimp only at hSw); go_simp <;> rfl)
  simp only [Act.put, List.getElem_toArray, List.getElem_cons_zero, List.getElem_cons_succ, List.setIfInBounds_toArray, List.set_cons_zero, List.set_cons_succ]
  refine wpAnyH_take (i := 4) (v := ?_) rfl (by kernel_rfl) (by kernel_rfl) (by kernel_rfl) (fun _ _ _ h => h) (Or.inl ⟨by rfl, ?_⟩) hHeld ?_
  rotate_left
  · (intro w hSw; (try dsimp only at hSw); go_simp <;> rfl)
  simp only [Act.put, List.getElem_toArray, List.getElem_cons_zero, List.getElem_cons_succ, List.setIfInBounds_toArray, List.set_cons_zero, List.set_cons_succ]
  refine wpAnyH_take (i := 5) (v := ?_) rfl (by kernel_rfl) (by kernel_rfl) (by kernel_rfl) (fun _ _ _ h => h) (Or.inl ⟨by rfl, ?_⟩) hHeld ?_
  rotate_left
  · (intro w hSw; (try dsimp only at hSw); go_simp <;> rfl)
  simp only [Act.put, List.getElem_toArray, List.getElem_cons_zero, List.getElem_cons_succ, List.setIfInBounds_toArray, List.set_cons_zero, List.set_cons_succ]
  refine wpAnyH_take (i := 6) (v := ?_) rfl (by kernel_rfl) (by kernel_rfl) (by kernel_rfl) (fun _ _ _ h => h) (Or.inl ⟨by rfl, ?_⟩) hHeld ?_
  rotate_left
  · (intro w hSw; (try dsimp only at hSw); go_simp <;> rfl)
  simp only [Act.put, List.getElem_toArray, List.getElem_cons_zero, List.getElem_cons_succ, List.setIfInBounds_toArray, List.set_cons_zero, List.set_cons_succ]
  have e2 : w2.drew.cell? ⟨eb, 3, none⟩ = some (.int .i64 0) := cell_of_row _ _ 3 _ _ _ he2.out
  refine wpAnyH_ready (rs := [7]) (by kernel_rfl) (by simp) ?_
  refine AllReadyH.cons rfl (fun K hK => ?_) AllReadyH.nil
  go_simp
  refine hK.out _ _ hHeld (fun hHeld => ?_)
  clear hK K
  try simp only [Act.put, List.getElem_toArray, List.getElem_cons_zero, List.getElem_cons_succ, List.setIfInBounds_toArray, List.set_cons_zero, List.set_cons_succ]
  refine wpAnyH_ready (rs := [8]) (by kernel_rfl) (by simp) ?_
  refine AllReadyH.cons rfl (fun K hK => ?_) AllReadyH.nil
  go_simp
  refine (cl_get (s := (stpN l 2 (k, 0))) hI hB2.out.drew hn hk2.out hf2.out hb2.out ht2.out p.a (.int .i64 0)).mono ?_
  rintro x w3 ⟨rfl, hf3', ht3', hA3⟩
  have he3' := (hA3.block eb (Array.getElem?_eq_some_iff.1 he2.out).1 (fun h => hE0.out h)).trans he2.out
  have ha3' := (hA3.block w.heap.size (Array.getElem?_eq_some_iff.1 ha2).1 (fun h => hE1.out h)).trans ha2
  have hb3' := (hA3.block bb (Array.getElem?_eq_some_iff.1 hb2.out).1 (fun h => hE2.out h)).trans hb2.out
  have hB3' := hB2.out.drew.trans (hA3.below (B := w0.heap.size) hB2.out.size fun b h => hE3.out b h)
  have hAw3' := hAw2.out.drew.trans hA3 fun b h => .inl (h.elim .inl fun h => .inr (.inl h))
  have hk3 : Hid ((stpN l 3 (k, 0)).1 ≤ n) := by
    have := stp_le (l := l) (s := (stpN l 2 (k, 0))) (by rw [hI.len]; exact hk2.out)
    rw [hI.len] at this
    exact this
  dsimp only
  refine hK.out _ _ (cell_of_row _ _ 3 _ _ _ ha3') (fun hHeld => ?_)
  clear hK K
  try simp only [Act.put, List.getElem_toArray, List.getElem_cons_zero, List.getElem_cons_succ, List.setIfInBounds_toArray, List.set_cons_zero, List.set_cons_succ]
  refine wpAnyH_take (i := 9) (v := ?_) rfl (by kernel_rfl) (by kernel_rfl) (by kernel_rfl) (fun _ _ _ h => h) (Or.inl ⟨by rfl, ?_⟩) hHeld ?_
  rotate_left
  · (intro w hSw; (try dsimp only at hSw); go_simp <;> rfl)
  simp only [Act.put, List.getElem_toArray, List.getElem_cons_zero, List.getElem_cons_succ, List.setIfInBounds_toArray, List.set_cons_zero, List.set_cons_succ]
  refine wpAnyH_take (i := 10) (v := ?_) rfl (by kernel_rfl) (by kernel_rfl) (by kernel_rfl) (fun _ _ _ h => h) (Or.inl ⟨by rfl, ?_⟩) hHeld ?_
  rotate_left
  · (intro w hSw; (try dsimp only at hSw); go_simp <;> rfl)
  simp only [Act.put, List.getElem_toArray, List.getElem_cons_zero, List.getElem_cons_succ, List.setIfInBounds_toArray, List.set_cons_zero, List.set_cons_succ]
  have y2 : w3.cell? ⟨eb, 3, none⟩ = some (.int .i64 0) := cell_of_row _ _ 3 _ _ _ he3'
  have yf2 := free_of_row he3' 3
  obtain ⟨v2, hv2⟩ : ∃ v, v = stv l (stpN l 2 (k, 0)) p.a := ⟨_, rfl⟩
  rw [← hv2]
  have hS3 := Away.setCell w3 ⟨eb, 3, none⟩ (.int .i64 v2)
  have he3 : Hid ((w3.setCell ⟨eb, 3, none⟩ (.int .i64 v2)).heap[eb]? = some (.cells #[.int .i64 (stv l (stpN l 0 (k, 0)) p.th), .int .u8 (op : Int), .int .i64 (stv l (stpN l 1 (k, 0)) p.obj), .int .i64 (stv l (stpN l 2 (k, 0)) p.a), .int .i64 0] 70 (0, 0))) := by
    show _ = _
    rw [set_blk he3' 3, hv2]; rfl
  have HV2 := Lib.hid hv2
  have ha3 : (w3.setCell ⟨eb, 3, none⟩ (.int .i64 v2)).heap[w.heap.size]? = some (.cells #[.int .i64 p.th, .int .u8 (p.op : Int), .int .i64 p.obj, .int .i64 p.a, .int .i64 p.b] 70 (0, 0)) :=
    (hS3.block w.heap.size (by have := (Array.getElem?_eq_some_iff.1 ha3').1; exact this) (fun h => hea.out h.symm)).trans ha3'
  have hb3 := Lib.hid ((hS3.block bb (Array.getElem?_eq_some_iff.1 hb3').1 hE4.out).trans hb3')
  have hf3 := Lib.hid ((hS3.block fb (Array.getElem?_eq_some_iff.1 hf3').1 hE5.out).trans hf3')
  have ht3 := Lib.hid ((hS3.block tb (Array.getElem?_eq_some_iff.1 ht3').1 hE6.out).trans ht3')
  have hB3 := Lib.hid (hB3'.trans (hS3.below (B := w0.heap.size) hB3'.size fun b h => by subst h; exact hE7.out))
  have hAw3 := Lib.hid (hAw3'.trans hS3 fun b h => .inl (.inr (.inr h)))
  have HA3 := Lib.hid ha3
  clear ha3 he3' ha3' hb3' hf3' ht3' hB3' hAw3' hS3 hA3 hAw2 hB2 hf2 ht2 hb2 he2 hv2
  refine wpAnyH_ready (rs := [11]) (by kernel_rfl) (by simp) ?_
  refine AllReadyH.cons rfl (fun K hK => ?_) AllReadyH.nil
  go_simp
  refine hK.out _ _ (cell_of_row _ _ 3 _ _ _ HA3.out) (fun hHeld => ?_)
  clear hK K y2 yf2 hHeld e2 a2 ha2
  try simp only [Act.put, List.getElem_toArray, List.getElem_cons_zero, List.getElem_cons_succ, List.setIfInBounds_toArray, List.set_cons_zero, List.set_cons_succ]
  refine wpAnyH_done (by kernel_rfl) ?_ _
  have ha3 := HA3.out
  clear HA3
  generalize w3.setCell ⟨eb, 3, none⟩ (.int .i64 v2) = w3 at he3 ha3 hb3 hf3 ht3 hB3 hAw3 ⊢
  try go_wp2_with fail
  -- the number b
  have a3 : w3.drew.cell? ⟨w.heap.size, 4, none⟩ = some (.int .i64 p.b) := cell_of_row _ _ 4 _ _ _ ha3
  refine wp_region_held_drew (S := fun w' => w'.cell? ⟨w.heap.size, 4, none⟩ = some (.int .i64 p.b)) (by kernel_rfl) a3 (fun hHeld => ?_)
  refine wpAnyH_take (i := 0) (v := ?_) rfl (by kernel_rfl) (by kernel_rfl) (by kernel_rfl) (fun _ _ _ h => h) (Or.inl ⟨by rfl, ?_⟩) hHeld ?_
  rotate_left
  · (intro w hSw; (try dsimp only at hSw); go_simp <;> rfl)
  simp only [Act.put, List.getElem_toArray, List.getElem_cons_zero, List.getElem_cons_succ, List.setIfInBounds_toArray, List.set_cons_zero, List.set_cons_succ]
  refine wpAnyH_take (i := 1) (v := ?_) rfl (by kernel_rfl) (by kernel_rfl) (by kernel_rfl) (fun _ _ _ h => h) (Or.inl ⟨by rfl, ?_⟩) hHeld ?_
  rotate_left
  · (intro w hSw; (try dsimp only at hSw); go_simp <;> rfl)
  simp only [Act.put, List.getElem_toArray, List.getElem_cons_zero, List.getElem_cons_succ, List.setIfInBounds_toArray, List.set_cons_zero, List.set_cons_succ]
  refine wpAnyH_take (i := 2) (v := ?_) rfl (by kernel_rfl) (by kernel_rfl) (by kernel_rfl) (fun _ _ _ h => h) (Or.inl ⟨by rfl, ?_⟩) hHeld ?_
  rotate_left
  · (intro w hSw; (try dsimp only at hSw); go_simp <;> rfl)
  simp only [Act.put, List.getElem_toArray, List.getElem_cons_zero, List.getElem_cons_succ, List.setIfInBounds_toArray, List.set_cons_zero, List.set_cons_succ]
  refine wpAnyH_take (i := 3) (v := ?_) rfl (by kernel_rfl) (by kernel_rfl) (by kernel_rfl) (fun _ _ _ h => h) (Or.inl ⟨by rfl, ?_⟩) hHeld ?_
  rotate_left
  · (intro w hSw; (try dsimp only at hSw); go_simp <;> rfl)
  simp only [Act.put, List.getElem_toArray, List.getElem_cons_zero, List.getElem_cons_succ, List.setIfInBounds_toArray, List.set_cons_zero, List.set_cons_succ]
  refine wpAnyH_take (i := 4) (v := ?_) rfl (by kernel_rfl) (by kernel_rfl) (by kernel_rfl) (fun _ _ _ h => h) (Or.inl ⟨by rfl, ?_⟩) hHeld ?_
  rotate_left
  · (intro w hSw; (try dsimp only at hSw); go_simp <;> rfl)
  simp only [Act.put, List.getElem_toArray, List.getElem_cons_zero, List.getElem_cons_succ, List.setIfInBounds_toArray, List.set_cons_zero, List.set_cons_succ]
  refine wpAnyH_take (i := 5) (v := ?_) rfl (by kernel_rfl) (by kernel_rfl) (by kernel_rfl) (fun _ _ _ h => h) (Or.inl ⟨by rfl, ?_⟩) hHeld ?_
  rotate_left
  · (intro w hSw; (try dsimp only at hSw); go_simp <;> rfl)
  simp only [Act.put, List.getElem_toArray, List.getElem_cons_zero, List.getElem_cons_succ, List.setIfInBounds_toArray, List.set_cons_zero, List.set_cons_succ]
  refine wpAnyH_take (i := 6) (v := ?_) rfl (by kernel_rfl) (by kernel_rfl) (by kernel_rfl) (fun _ _ _ h => h) (Or.inl ⟨by rfl, ?_⟩) hHeld ?_
  rotate_left
  · (intro w hSw; (try dsimp only at hSw); go_simp <;> rfl)
  simp only [Act.put, List.getElem_toArray, List.getElem_cons_zero, List.getElem_cons_succ, List.setIfInBounds_toArray, List.set_cons_zero, List.set_cons_succ]
  have e3 : w3.drew.cell? ⟨eb, 4, none⟩ = some (.int .i64 0) := cell_of_row _ _ 4 _ _ _ he3.out
  refine wpAnyH_ready (rs := [7]) (by kernel_rfl) (by simp) ?_
  refine AllReadyH.cons rfl (fun K hK => ?_) AllReadyH.nil
  go_simp
  refine hK.out _ _ hHeld (fun hHeld => ?_)
  clear hK K
  try simp only [Act.put, List.getElem_toArray, List.getElem_cons_zero, List.getElem_cons_succ, List.setIfInBounds_toArray, List.set_cons_zero, List.set_cons_succ]
  refine wpAnyH_ready (rs := [8]) (by kernel_rfl) (by simp) ?_
  refine AllReadyH.cons rfl (fun K hK => ?_) AllReadyH.nil
  go_simp
  refine (cl_get (s := (stpN l 3 (k, 0))) hI hB3.out.drew hn hk3.out hf3.out hb3.out ht3.out p.b (.int .i64 0)).mono ?_
  rintro x w4 ⟨rfl, hf4', ht4', hA4⟩
  have he4' := (hA4.block eb (Array.getElem?_eq_some_iff.1 he3.out).1 (fun h => hE0.out h)).trans he3.out
  have ha4' := (hA4.block w.heap.size (Array.getElem?_eq_some_iff.1 ha3).1 (fun h => hE1.out h)).trans ha3
  have hb4' := (hA4.block bb (Array.getElem?_eq_some_iff.1 hb3.out).1 (fun h => hE2.out h)).trans hb3.out
  have hB4' := hB3.out.drew.trans (hA4.below (B := w0.heap.size) hB3.out.size fun b h => hE3.out b h)
  have hAw4' := hAw3.out.drew.trans hA4 fun b h => .inl (h.elim .inl fun h => .inr (.inl h))
  have hk4 : Hid ((stpN l 4 (k, 0)).1 ≤ n) := by
    have := stp_le (l := l) (s := (stpN l 3 (k, 0))) (by rw [hI.len]; exact hk3.out)
    rw [hI.len] at this
    exact this
  dsimp only
  refine hK.out _ _ (cell_of_row _ _ 4 _ _ _ ha4') (fun hHeld => ?_)
  clear hK K
  try simp only [Act.put, List.getElem_toArray, List.getElem_cons_zero, List.getElem_cons_succ, List.setIfInBounds_toArray, List.set_cons_zero, List.set_cons_succ]
  refine wpAnyH_take (i := 9) (v := ?_) rfl (by kernel_rfl) (by kernel_rfl) (by kernel_rfl) (fun _ _ _ h => h) (Or.inl ⟨by rfl, ?_⟩) hHeld ?_
  rotate_left
  · (intro w hSw; (try dsimp only at hSw); go_simp <;> rfl)
  simp only [Act.put, List.getElem_toArray, List.getElem_cons_zero, List.getElem_cons_succ, List.setIfInBounds_toArray, List.set_cons_zero, List.set_cons_succ]
  refine wpAnyH_take (i := 10) (v := ?_) rfl (by kernel_rfl) (by kernel_rfl) (by kernel_rfl) (fun _ _ _ h => h) (Or.inl ⟨by rfl, ?_⟩) hHeld ?_
  rotate_left
  · (intro w hSw; (try dsimp only at hSw); go_simp <;> rfl)
  simp only [Act.put, List.getElem_toArray, List.getElem_cons_zero, List.getElem_cons_succ, List.setIfInBounds_toArray, List.set_cons_zero, List.set_cons_succ]
  have y3 : w4.cell? ⟨eb, 4, none⟩ = some (.int .i64 0) := cell_of_row _ _ 4 _ _ _ he4'
  have yf3 := free_of_row he4' 4
  obtain ⟨v3, hv3⟩ : ∃ v, v = stv l (stpN l 3 (k, 0)) p.b := ⟨_, rfl⟩
  rw [← hv3]
  have hS4 := Away.setCell w4 ⟨eb, 4, none⟩ (.int .i64 v3)
  have he4 : Hid ((w4.setCell ⟨eb, 4, none⟩ (.int .i64 v3)).heap[eb]? = some (.cells #[.int .i64 (stv l (stpN l 0 (k, 0)) p.th), .int .u8 (op : Int), .int .i64 (stv l (stpN l 1 (k, 0)) p.obj), .int .i64 (stv l (stpN l 2 (k, 0)) p.a), .int .i64 (stv l (stpN l 3 (k, 0)) p.b)] 70 (0, 0))) := by
    show _ = _
    rw [set_blk he4' 4, hv3]; rfl
  have HV3 := Lib.hid hv3
  have ha4 : (w4.setCell ⟨eb, 4, none⟩ (.int .i64 v3)).heap[w.heap.size]? = some (.cells #[.int .i64 p.th, .int .u8 (p.op : Int), .int .i64 p.obj, .int .i64 p.a, .int .i64 p.b] 70 (0, 0)) :=
    (hS4.block w.heap.size (by have := (Array.getElem?_eq_some_iff.1 ha4').1; exact this) (fun h => hea.out h.symm)).trans ha4'
  have hb4 := Lib.hid ((hS4.block bb (Array.getElem?_eq_some_iff.1 hb4').1 hE4.out).trans hb4')
  have hf4 := Lib.hid ((hS4.block fb (Array.getElem?_eq_some_iff.1 hf4').1 hE5.out).trans hf4')
  have ht4 := Lib.hid ((hS4.block tb (Array.getElem?_eq_some_iff.1 ht4').1 hE6.out).trans ht4')
  have hB4 := Lib.hid (hB4'.trans (hS4.below (B := w0.heap.size) hB4'.size fun b h => by subst h; exact hE7.out))
  have hAw4 := Lib.hid (hAw4'.trans hS4 fun b h => .inl (.inr (.inr h)))
  have HA4 := Lib.hid ha4
  clear ha4 he4' ha4' hb4' hf4' ht4' hB4' hAw4' hS4 hA4 hAw3 hB3 hf3 ht3 hb3 he3 hv3
  refine wpAnyH_ready (rs := [11]) (by kernel_rfl) (by simp) ?_
  refine AllReadyH.cons rfl (fun K hK => ?_) AllReadyH.nil
  go_simp
  refine hK.out _ _ (cell_of_row _ _ 4 _ _ _ HA4.out) (fun hHeld => ?_)
  clear hK K y3 yf3 hHeld e3 a3 ha3
  try simp only [Act.put, List.getElem_toArray, List.getElem_cons_zero, List.getElem_cons_succ, List.setIfInBounds_toArray, List.set_cons_zero, List.set_cons_succ]
  refine wpAnyH_done (by kernel_rfl) ?_ _
  have ha4 := HA4.out
  clear HA4
  generalize w4.setCell ⟨eb, 4, none⟩ (.int .i64 v3) = w4 at he4 ha4 hb4 hf4 ht4 hB4 hAw4 ⊢
  try go_wp2_with fail
  go_end0
  exact ⟨rfl, he4.out, hf4.out, ht4.out, hAw4.out⟩
end Go.Proofs.Ytebpdlggkncliaa
