/-
  Get: the event at a place.
-/
import Derived.Test.YtebpdlggkncliaaKEvGetB
import Derived.Deep.QuietTactic
set_option linter.unusedVariables false
set_option linter.unusedSimpArgs false
namespace Go.Proofs.Ytebpdlggkncliaa
open Go.RowKit
open Go.Lib (byteCells byteCells_length byteCells_append uvarint)

theorem allocs6 (w : World) (o1 o2 o3 o4 o5 o6 : Obj) : Below w.heap.size w ((((((w.alloc o1).alloc o2).alloc o3).alloc o4).alloc o5).alloc o6) ∧ ((((((w.alloc o1).alloc o2).alloc o3).alloc o4).alloc o5).alloc o6).heap[w.heap.size]? = some o1 ∧
    ((((((w.alloc o1).alloc o2).alloc o3).alloc o4).alloc o5).alloc o6).heap[w.heap.size + 1]? = some o2 ∧ ((((((w.alloc o1).alloc o2).alloc o3).alloc o4).alloc o5).alloc o6).heap[w.heap.size + 1 + 1]? = some o3 ∧
    ((((((w.alloc o1).alloc o2).alloc o3).alloc o4).alloc o5).alloc o6).heap[w.heap.size + 1 + 1 + 1]? = some o4 ∧ ((((((w.alloc o1).alloc o2).alloc o3).alloc o4).alloc o5).alloc o6).heap[w.heap.size + 1 + 1 + 1 + 1]? = some o5 ∧
    ((((((w.alloc o1).alloc o2).alloc o3).alloc o4).alloc o5).alloc o6).heap[w.heap.size + 1 + 1 + 1 + 1 + 1]? = some o6 ∧ ((((((w.alloc o1).alloc o2).alloc o3).alloc o4).alloc o5).alloc o6).heap.size = w.heap.size + 6 := by
  obtain ⟨hB, k0, k1, k2, k3, kz⟩ := allocs4 w o1 o2 o3 o4
  generalize (((w.alloc o1).alloc o2).alloc o3).alloc o4 = W at hB k0 k1 k2 k3 kz ⊢
  have old : ∀ b, b < W.heap.size → ((W.alloc o5).alloc o6).heap[b]? = W.heap[b]? := fun b hb => (heap_alloc_old _ _ (by simp; omega)).trans (heap_alloc_old _ _ hb)
  refine ⟨(hB.alloc hB.size _).alloc (by have := hB.size; simp; omega) _, ?_, ?_, ?_, ?_, ?_, ?_, ?_⟩
  · rw [old _ (by omega)]; exact k0
  · rw [old _ (by omega)]; exact k1
  · rw [old _ (by omega)]; exact k2
  · rw [old _ (by omega)]; exact k3
  · rw [heap_alloc_old _ _ (by simp; omega), show w.heap.size + 1 + 1 + 1 + 1 = W.heap.size by omega]
    exact heap_alloc_new W o5
  · have := heap_alloc_new (W.alloc o5) o6
    rw [show w.heap.size + 1 + 1 + 1 + 1 + 1 = (W.alloc o5).heap.size by simp; omega]
    exact this
  · simp; omega
/-- Get's three answers -/
def ansE (q : Ev × Nat × Nat) : Value := .tuple #[.agg #[.int .i64 q.1.th, .int .u8 (q.1.op : Int), .int .i64 q.1.obj, .int .i64 q.1.a, .int .i64 q.1.b], .int .i64 (q.2.1 : Int), .int .i64 (q.2.2 : Int)]
set_option maxRecDepth 100000 in
set_option maxHeartbeats 1000000 in
theorem Get_out (A : Option Addr) (n c : Nat) (k : Int) (p : Ev) (w : World) (hk : k < 0 ∨ (n : Int) < k) :
    Calls Try.prog 42 #[.slice A n c, .int .i64 k, .agg #[.int .i64 p.th, .int .u8 (p.op : Int), .int .i64 p.obj, .int .i64 p.a, .int .i64 p.b]] w fun e w' => e = .returned (ansE (Ev.zero, 0, 2)) ∧ Below w.heap.size w w' := by
  by_cases h0 : k < 0
  · have hd0 : decide (k < 0) = true := decide_eq_true h0
    clear hk
    go_enter Try.func42, Try.ntmps42
    go_wp2_with fail
    refine bodyPost_ret (v := ansE (Ev.zero, 0, 2)) (by simp [results, Try.results42, go_sem, ansE, Ev.zero]) rfl ⟨rfl, ?_⟩
    go_grown
  · have hd0 : decide (k < 0) = false := decide_eq_false h0
    have hd1 : decide ((n : Int) < k) = true := decide_eq_true (by omega)
    clear hk h0
    go_enter Try.func42, Try.ntmps42
    go_wp2_with fail
    refine bodyPost_ret (v := ansE (Ev.zero, 0, 2)) (by simp [results, Try.results42, go_sem, ansE, Ev.zero]) rfl ⟨rfl, ?_⟩
    go_grown
set_option maxRecDepth 100000 in
set_option maxHeartbeats 1000000 in
theorem Get_end (A : Option Addr) (n c : Nat) (l : List UInt8) (p : Ev) (w : World) (hl : l.length = n) :
    Calls Try.prog 42 #[.slice A n c, .int .i64 (n : Int), .agg #[.int .i64 p.th, .int .u8 (p.op : Int), .int .i64 p.obj, .int .i64 p.a, .int .i64 p.b]] w fun e w' => e = .returned (ansE (getEv p l n)) ∧ Below w.heap.size w w' := by
  have hg : getEv p l n = (Ev.zero, 0, 11) := by
    unfold getEv
    rw [List.getElem?_eq_none (by omega)]
  rw [hg]
  have hd0 : decide ((n : Int) < 0) = false := decide_eq_false (by omega)
  clear hg hl
  go_enter Try.func42, Try.ntmps42
  go_wp2_with fail
  refine bodyPost_ret (v := ansE (Ev.zero, 0, 11)) (by simp [results, Try.results42, go_sem, ansE, Ev.zero]) rfl ⟨rfl, ?_⟩
  go_grown
set_option maxRecDepth 100000 in
set_option maxHeartbeats 1000000 in
theorem Get_in (A : Option Addr) (n c k : Nat) (l : List UInt8) (p : Ev) (w : World) (h : IsB w A n c l) (hn : n ≤ 1000000) (hk : k < n) :
    Calls Try.prog 42 #[.slice A n c, .int .i64 (k : Int), .agg #[.int .i64 p.th, .int .u8 (p.op : Int), .int .i64 p.obj, .int .i64 p.a, .int .i64 p.b]] w fun e w' => e = .returned (ansE (getEv p l k)) ∧ Below w.heap.size w w' := by
  have hl := h.len
  obtain ⟨x, hx⟩ : ∃ x, l[k]? = some x := ⟨l[k]'(by omega), List.getElem?_eq_getElem _⟩
  obtain ⟨b, o, rfl, hc⟩ : ∃ b o, A = some ⟨b, o, none⟩ ∧ w.cell? ⟨b, o + k, none⟩ = some (.int .u8 (x.toNat : Int)) := by
    rcases h.src with h0 | ⟨b, o, hA, hc⟩
    · rw [h0] at hl; simp at hl; omega
    · exact ⟨b, o, hA, hc _ _ hx⟩
  have hd0 : decide ((k : Int) < 0) = false := decide_eq_false (by omega)
  have hd1 : decide ((n : Int) < (k : Int)) = false := decide_eq_false (by omega)
  have hd2 : ((k : Int) == (n : Int)) = false := beq_eq_false_iff_ne.2 (by omega)
  have hd3 : (n < k) = False := by simp; omega
  have hc4 := cell_below (allocs4 w (.cells #[.slice (some ⟨b, o, none⟩) n c] 26) (.cells #[.int .i64 (k : Int)] 3) (.cells #[.int .i64 p.th, .int .u8 (p.op : Int), .int .i64 p.obj, .int .i64 p.a, .int .i64 p.b] 70)
    (.cells #[.int .i64 0, .int .u8 0, .int .i64 0, .int .i64 0, .int .i64 0] 70)).1 _ _ hc
  have HX := Lib.hid hx
  have HI := Lib.hid h
  have HL := Lib.hid hl
  clear hx h hl
  go_enter Try.func42, Try.ntmps42
  go_wp2_with fail
  obtain ⟨hB6, k0, k1, k2, k3, k4, k5, kz⟩ := allocs6 w (.cells #[.slice (some ⟨b, o, none⟩) n c] 26) (.cells #[.int .i64 ((k : Int) + 1)] 3) (.cells #[.int .i64 p.th, .int .u8 (p.op : Int), .int .i64 p.obj, .int .i64 p.a, .int .i64 p.b] 70) (.cells #[.int .i64 0, .int .u8 0, .int .i64 0, .int .i64 0, .int .i64 0] 70) (.cells #[.int .i64 0, .int .u8 (x.toNat : Int), .int .i64 0, .int .i64 0, .int .i64 0] 70) (.cells #[.int .i64 0] 23)
  have HE := Lib.hid (each_get (p := p) (k := k + 1) (op := x.toNat) HI.out hB6 hn (by omega) (by omega) (by omega) (by omega) k5 k0 k1 k4)
  generalize (((((w.alloc (.cells #[.slice (some ⟨b, o, none⟩) n c] 26)).alloc (.cells #[.int .i64 ((k : Int) + 1)] 3)).alloc (.cells #[.int .i64 p.th, .int .u8 (p.op : Int), .int .i64 p.obj, .int .i64 p.a, .int .i64 p.b] 70)).alloc (.cells #[.int .i64 0, .int .u8 0, .int .i64 0, .int .i64 0, .int .i64 0] 70)).alloc (.cells #[.int .i64 0, .int .u8 (x.toNat : Int), .int .i64 0, .int .i64 0, .int .i64 0] 70)).alloc (.cells #[.int .i64 0] 23) = W6 at hB6 k0 k1 k2 k3 k4 k5 kz HE ⊢
  refine HE.out.mono ?_
  rintro e w5 ⟨rfl, he, hf, ht, hA⟩
  have hb3 := (hA.block (w.heap.size + 1 + 1 + 1) (by omega) (by omega)).trans k3
  have hB5 := hB6.trans (hA.below (B := w.heap.size) hB6.size fun b hb => by omega)
  have HG : Hid (getEv p l k = if (stpN l 4 (k + 1, 0)).2 = 0 then (rawEv p l (k + 1) x.toNat, (stpN l 4 (k + 1, 0)).1, 0) else (Ev.zero, 0, (stpN l 4 (k + 1, 0)).2)) := by
    show _ = _
    unfold getEv
    rw [HX.out]
  unfold rawEv at HG
  generalize (stpN l 4 (k + 1, 0)).2 = f at HG hf
  generalize (stpN l 4 (k + 1, 0)).1 = k' at HG ht
  generalize stv l (stpN l 0 (k + 1, 0)) p.th = v0 at HG he
  generalize stv l (stpN l 1 (k + 1, 0)) p.obj = v2 at HG he
  generalize stv l (stpN l 2 (k + 1, 0)) p.a = v3 at HG he
  generalize stv l (stpN l 3 (k + 1, 0)) p.b = v4 at HG he
  have f0 : w5.cell? ⟨w.heap.size + 1 + 1 + 1 + 1 + 1, 0, none⟩ = some (.int .i64 (f : Int)) := cell_of_row _ _ 0 _ _ _ hf
  have t0 : w5.cell? ⟨w.heap.size + 1, 0, none⟩ = some (.int .i64 (k' : Int)) := cell_of_row _ _ 0 _ _ _ ht
  have e0 : w5.cell? ⟨w.heap.size + 1 + 1 + 1 + 1, 0, none⟩ = some (.int .i64 v0) := cell_of_row _ _ 0 _ _ _ he
  have e1 : w5.cell? ⟨w.heap.size + 1 + 1 + 1 + 1, 1, none⟩ = some (.int .u8 (x.toNat : Int)) := cell_of_row _ _ 1 _ _ _ he
  have e2 : w5.cell? ⟨w.heap.size + 1 + 1 + 1 + 1, 2, none⟩ = some (.int .i64 v2) := cell_of_row _ _ 2 _ _ _ he
  have e3 : w5.cell? ⟨w.heap.size + 1 + 1 + 1 + 1, 3, none⟩ = some (.int .i64 v3) := cell_of_row _ _ 3 _ _ _ he
  have e4 : w5.cell? ⟨w.heap.size + 1 + 1 + 1 + 1, 4, none⟩ = some (.int .i64 v4) := cell_of_row _ _ 4 _ _ _ he
  have r0 : w5.cell? ⟨w.heap.size + 1 + 1 + 1, 0, none⟩ = some (.int .i64 0) := cell_of_row _ _ 0 _ _ _ hb3
  have r1 : w5.cell? ⟨w.heap.size + 1 + 1 + 1, 1, none⟩ = some (.int .u8 0) := cell_of_row _ _ 1 _ _ _ hb3
  have r2 : w5.cell? ⟨w.heap.size + 1 + 1 + 1, 2, none⟩ = some (.int .i64 0) := cell_of_row _ _ 2 _ _ _ hb3
  have r3 : w5.cell? ⟨w.heap.size + 1 + 1 + 1, 3, none⟩ = some (.int .i64 0) := cell_of_row _ _ 3 _ _ _ hb3
  have r4 : w5.cell? ⟨w.heap.size + 1 + 1 + 1, 4, none⟩ = some (.int .i64 0) := cell_of_row _ _ 4 _ _ _ hb3
  have z0 := free_of_row hb3 0
  have z1 := free_of_row hb3 1
  have z2 := free_of_row hb3 2
  have z3 := free_of_row hb3 3
  have z4 := free_of_row hb3 4
  have le0 : w.heap.size + 1 + 1 + 1 + 1 < w5.heap.size := block_lt_of_cell e0
  have lt0 : w.heap.size + 1 < w5.heap.size := block_lt_of_cell t0
  have lf0 : w.heap.size + 1 + 1 + 1 + 1 + 1 < w5.heap.size := block_lt_of_cell f0
  have ne0 : ¬ (w.heap.size + 1 + 1 + 1 + 1 = w.heap.size + 1 + 1 + 1) := by omega
  have nt0 : ¬ (w.heap.size + 1 = w.heap.size + 1 + 1 + 1) := by omega
  have nf0 : ¬ (w.heap.size + 1 + 1 + 1 + 1 + 1 = w.heap.size + 1 + 1 + 1) := by omega
  have HR := Lib.hid hb3
  have HB5 := Lib.hid hB5
  clear HE k0 k1 k2 k3 k4 k5 kz he hf ht hA hb3 hB6 hc hc4 HI hB5 hd0 hd1 hd2 hd3
  by_cases hz : f = 0
  · skip
    have hd : ((f : Int) != 0) = false := by simp; omega
    go_wp2_with fail
    refine wp_region_held_drew (S := fun w' => w'.heap[w.heap.size + 1 + 1 + 1 + 1]? = w5.heap[w.heap.size + 1 + 1 + 1 + 1]? ∧ w'.heap[w.heap.size + 1]? = w5.heap[w.heap.size + 1]?) (by kernel_rfl) ⟨rfl, rfl⟩ (fun hHeld => ?_)
    refine wpAnyH_take (i := 0) (v := ?_) rfl (by kernel_rfl) (by kernel_rfl) (by kernel_rfl) (fun _ _ _ h => h) (Or.inl ⟨by rfl, ?_⟩) hHeld ?_
    rotate_left
    · (intro wy hSw; have x0 := (World.cell?_of_block (a := ⟨w.heap.size + 1 + 1 + 1 + 1, 0, none⟩) hSw.1).trans e0; have x1 := (World.cell?_of_block (a := ⟨w.heap.size + 1 + 1 + 1 + 1, 1, none⟩) hSw.1).trans e1; have x2 := (World.cell?_of_block (a := ⟨w.heap.size + 1 + 1 + 1 + 1, 2, none⟩) hSw.1).trans e2; have x3 := (World.cell?_of_block (a := ⟨w.heap.size + 1 + 1 + 1 + 1, 3, none⟩) hSw.1).trans e3; have x4 := (World.cell?_of_block (a := ⟨w.heap.size + 1 + 1 + 1 + 1, 4, none⟩) hSw.1).trans e4; go_simp <;> rfl)
    simp only [Act.put, List.getElem_toArray, List.getElem_cons_zero, List.getElem_cons_succ, List.setIfInBounds_toArray, List.set_cons_zero, List.set_cons_succ]
    refine wpAnyH_take (i := 1) (v := ?_) rfl (by kernel_rfl) (by kernel_rfl) (by kernel_rfl) (fun _ _ _ h => h) (Or.inl ⟨by rfl, ?_⟩) hHeld ?_
    rotate_left
    · (intro wy hSw; have x0 := (World.cell?_of_block (a := ⟨w.heap.size + 1, 0, none⟩) hSw.2).trans t0; go_simp <;> rfl)
    simp only [Act.put, List.getElem_toArray, List.getElem_cons_zero, List.getElem_cons_succ, List.setIfInBounds_toArray, List.set_cons_zero, List.set_cons_succ]
    refine wpAnyH_ready (rs := [2]) (by kernel_rfl) (by simp) ?_
    refine AllReadyH.cons rfl (fun K hK => ?_) AllReadyH.nil
    go_simp
    have HS5 := Lib.hid (set5 (w := w5) HR.out (.int .i64 v0) (.int .u8 (x.toNat : Int)) (.int .i64 v2) (.int .i64 v3) (.int .i64 v4))
    have s1 := HS5.out.2.drew.block (w.heap.size + 1 + 1 + 1 + 1) le0 ne0
    have s2 := HS5.out.2.drew.block (w.heap.size + 1) lt0 nt0
    refine hK.out _ _ ⟨s1, s2⟩ (fun hHeld => ?_)
    clear hK K
    try simp only [Act.put, List.getElem_toArray, List.getElem_cons_zero, List.getElem_cons_succ, List.setIfInBounds_toArray, List.set_cons_zero, List.set_cons_succ]
    refine wpAnyH_take (i := 3) (v := ?_) rfl (by kernel_rfl) (by kernel_rfl) (by kernel_rfl) (fun _ _ _ h => h) (Or.inl ⟨by rfl, ?_⟩) hHeld ?_
    rotate_left
    · (intro w hSw; (try dsimp only at hSw); go_simp <;> rfl)
    simp only [Act.put, List.getElem_toArray, List.getElem_cons_zero, List.getElem_cons_succ, List.setIfInBounds_toArray, List.set_cons_zero, List.set_cons_succ]
    refine wpAnyH_take (i := 4) (v := ?_) rfl (by kernel_rfl) (by kernel_rfl) (by kernel_rfl) (fun _ _ _ h => h) (Or.inl ⟨by rfl, ?_⟩) hHeld ?_
    rotate_left
    · (intro w hSw; (try dsimp only at hSw); go_simp <;> rfl)
    simp only [Act.put, List.getElem_toArray, List.getElem_cons_zero, List.getElem_cons_succ, List.setIfInBounds_toArray, List.set_cons_zero, List.set_cons_succ]
    refine wpAnyH_done (by kernel_rfl) ?_ _
    obtain ⟨hs5, hA5⟩ := HS5.out
    have q0 := cell_of_row _ _ 0 _ _ _ hs5
    have q1 := cell_of_row _ _ 1 _ _ _ hs5
    have q2 := cell_of_row _ _ 2 _ _ _ hs5
    have q3 := cell_of_row _ _ 3 _ _ _ hs5
    have q4 := cell_of_row _ _ 4 _ _ _ hs5
    have hB9 := HB5.out.trans ((hA5.below (B := w.heap.size) HB5.out.size fun b hb => by subst hb; omega))
    go_wp2_with fail
    refine bodyPost_ret (v := ansE (⟨v0, x.toNat, v2, v3, v4⟩, k', 0)) (by simp [results, Try.results42, go_sem, ansE, Ev.zero, q0, q1, q2, q3, q4]) rfl ⟨by rw [HG.out, if_pos hz], hB9.drew⟩
  · skip
    have hd : ((f : Int) != 0) = true := by simp; omega
    go_wp2_with fail
    refine wp_region_held_drew (S := fun w' => w'.heap[w.heap.size + 1 + 1 + 1 + 1 + 1]? = w5.heap[w.heap.size + 1 + 1 + 1 + 1 + 1]?) (by kernel_rfl) rfl (fun hHeld => ?_)
    refine wpAnyH_take (i := 0) (v := ?_) rfl (by kernel_rfl) (by kernel_rfl) (by kernel_rfl) (fun _ _ _ h => h) (Or.inl ⟨by rfl, ?_⟩) hHeld ?_
    rotate_left
    · (intro w hSw; (try dsimp only at hSw); go_simp <;> rfl)
    simp only [Act.put, List.getElem_toArray, List.getElem_cons_zero, List.getElem_cons_succ, List.setIfInBounds_toArray, List.set_cons_zero, List.set_cons_succ]
    refine wpAnyH_take (i := 1) (v := ?_) rfl (by kernel_rfl) (by kernel_rfl) (by kernel_rfl) (fun _ _ _ h => h) (Or.inl ⟨by rfl, ?_⟩) hHeld ?_
    rotate_left
    · (intro wy hSw; have x0 := (World.cell?_of_block (a := ⟨w.heap.size + 1 + 1 + 1 + 1 + 1, 0, none⟩) hSw).trans f0; go_simp <;> rfl)
    simp only [Act.put, List.getElem_toArray, List.getElem_cons_zero, List.getElem_cons_succ, List.setIfInBounds_toArray, List.set_cons_zero, List.set_cons_succ]
    refine wpAnyH_ready (rs := [2]) (by kernel_rfl) (by simp) ?_
    refine AllReadyH.cons rfl (fun K hK => ?_) AllReadyH.nil
    go_simp
    have HS5 := Lib.hid (set5 (w := w5) HR.out (.int .i64 0) (.int .u8 0) (.int .i64 0) (.int .i64 0) (.int .i64 0))
    have s1 := HS5.out.2.drew.block (w.heap.size + 1 + 1 + 1 + 1 + 1) lf0 nf0
    refine hK.out _ _ s1 (fun hHeld => ?_)
    clear hK K
    try simp only [Act.put, List.getElem_toArray, List.getElem_cons_zero, List.getElem_cons_succ, List.setIfInBounds_toArray, List.set_cons_zero, List.set_cons_succ]
    refine wpAnyH_take (i := 3) (v := ?_) rfl (by kernel_rfl) (by kernel_rfl) (by kernel_rfl) (fun _ _ _ h => h) (Or.inl ⟨by rfl, ?_⟩) hHeld ?_
    rotate_left
    · (intro w hSw; (try dsimp only at hSw); go_simp <;> rfl)
    simp only [Act.put, List.getElem_toArray, List.getElem_cons_zero, List.getElem_cons_succ, List.setIfInBounds_toArray, List.set_cons_zero, List.set_cons_succ]
    refine wpAnyH_take (i := 4) (v := ?_) rfl (by kernel_rfl) (by kernel_rfl) (by kernel_rfl) (fun _ _ _ h => h) (Or.inl ⟨by rfl, ?_⟩) hHeld ?_
    rotate_left
    · (intro w hSw; (try dsimp only at hSw); go_simp <;> rfl)
    simp only [Act.put, List.getElem_toArray, List.getElem_cons_zero, List.getElem_cons_succ, List.setIfInBounds_toArray, List.set_cons_zero, List.set_cons_succ]
    refine wpAnyH_done (by kernel_rfl) ?_ _
    obtain ⟨hs5, hA5⟩ := HS5.out
    have q0 := cell_of_row _ _ 0 _ _ _ hs5
    have q1 := cell_of_row _ _ 1 _ _ _ hs5
    have q2 := cell_of_row _ _ 2 _ _ _ hs5
    have q3 := cell_of_row _ _ 3 _ _ _ hs5
    have q4 := cell_of_row _ _ 4 _ _ _ hs5
    have hB9 := HB5.out.trans ((hA5.below (B := w.heap.size) HB5.out.size fun b hb => by subst hb; omega))
    go_wp2_with fail
    refine bodyPost_ret (v := ansE (Ev.zero, 0, f)) (by simp [results, Try.results42, go_sem, ansE, Ev.zero, q0, q1, q2, q3, q4]) rfl ⟨by rw [HG.out, if_neg hz], hB9.drew⟩
end Go.Proofs.Ytebpdlggkncliaa
