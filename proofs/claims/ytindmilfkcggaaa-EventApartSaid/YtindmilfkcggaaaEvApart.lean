/-
  EventApart: two unlike events have unlike bytes beside the same one, neither the begin of the other; an event has 5 to 41 bytes, beside itself 5.
-/
import Derived.Test.YtindmilfkcggaaaEvShift
set_option linter.unusedVariables false
set_option linter.unusedSimpArgs false
namespace Go.Proofs.Ytindmilfkcggaaa
open Go.RowKit
open Go.Lib (byteCells byteCells_length byteCells_append uvarint)

theorem IsB.take {w : World} {A : Option Addr} {m c : Nat} {l : List UInt8} (h : IsB w A m c l) {n : Nat} (hn : n ≤ m) : IsB w A n c (l.take n) := by
  refine ⟨by rw [List.length_take, h.len]; omega, Nat.le_trans hn h.cap, h.none_, ?_⟩
  rcases h.src with h0 | ⟨b, o, hA, hc⟩
  · exact .inl (by rw [h0, List.take_nil])
  · refine .inr ⟨b, o, hA, fun j u hj => hc j u ?_⟩
    have hj' := (List.getElem?_eq_some_iff.1 hj).1
    rw [List.length_take] at hj'
    rwa [List.getElem?_take_of_lt (by omega)] at hj
theorem apart_le {p e f : Ev} (he : e.ok) (hf : f.ok) {n : Nat} (hn : n = (encEv p e).length) (hle : n ≤ (encEv p f).length) (h : (encEv p e).take n = (encEv p f).take n) : e = f := by
  rw [List.take_of_length_le (by omega)] at h
  have h2 : encEv p e ++ (encEv p f).drop n = encEv p f ++ [] := by rw [h, List.take_append_drop, List.append_nil]
  exact (encEv_front he hf h2).1
theorem apart_iff {p e f : Ev} (he : e.ok) (hf : f.ok) {n : Nat} (hn : n = min (encEv p e).length (encEv p f).length) : decide (e = f) = decide ((encEv p e).take n = (encEv p f).take n) := by
  by_cases h : e = f
  · subst h; simp
  · rw [decide_eq_false h, decide_eq_false]
    intro h2
    rcases Nat.le_total (encEv p e).length (encEv p f).length with hl | hl
    · exact h (apart_le he hf (by omega) (by omega) h2)
    · exact h (apart_le hf he (by omega) (by omega) h2.symm).symm

set_option maxRecDepth 100000 in
set_option maxHeartbeats 2000000 in
theorem apart_walk (p e f : Ev) (w : World) (he : e.ok) (hf : f.ok) :
    Calls Try.prog 7 #[.agg #[.int .i64 p.th, .int .u8 (p.op : Int), .int .i64 p.obj, .int .i64 p.a, .int .i64 p.b], .agg #[.int .i64 e.th, .int .u8 (e.op : Int), .int .i64 e.obj, .int .i64 e.a, .int .i64 e.b], .agg #[.int .i64 f.th, .int .u8 (f.op : Int), .int .i64 f.obj, .int .i64 f.a, .int .i64 f.b]] w fun x w' => x = .returned (.bool true) ∧ Below w.heap.size w w' := by
  obtain ⟨hB3, k0, k1, k2⟩ := allocs3 w (.cells #[.int .i64 p.th, .int .u8 (p.op : Int), .int .i64 p.obj, .int .i64 p.a, .int .i64 p.b] 24) (.cells #[.int .i64 e.th, .int .u8 (e.op : Int), .int .i64 e.obj, .int .i64 e.a, .int .i64 e.b] 24) (.cells #[.int .i64 f.th, .int .u8 (f.op : Int), .int .i64 f.obj, .int .i64 f.a, .int .i64 f.b] 24)
  have s1 := encEv_least p e
  have s2 := encEv_most p e
  have s3 := encEv_least p f
  have s4 := encEv_most p f
  go_enter Try.func7, Try.ntmps7
  go_wp2_with fail
  generalize (((w.alloc (.cells #[.int .i64 p.th, .int .u8 (p.op : Int), .int .i64 p.obj, .int .i64 p.a, .int .i64 p.b] 24)).alloc (.cells #[.int .i64 e.th, .int .u8 (e.op : Int), .int .i64 e.obj, .int .i64 e.a, .int .i64 e.b] 24)).alloc (.cells #[.int .i64 f.th, .int .u8 (f.op : Int), .int .i64 f.obj, .int .i64 f.a, .int .i64 f.b] 24)) = W3 at hB3 k0 k1 k2 ⊢
  have x0 : W3.cell? ⟨w.heap.size, 0, none⟩ = some (.int .i64 p.th) := cell_of_row _ _ 0 _ _ _ k0
  have x1 : W3.cell? ⟨w.heap.size, 1, none⟩ = some (.int .u8 (p.op : Int)) := cell_of_row _ _ 1 _ _ _ k0
  have x2 : W3.cell? ⟨w.heap.size, 2, none⟩ = some (.int .i64 p.obj) := cell_of_row _ _ 2 _ _ _ k0
  have x3 : W3.cell? ⟨w.heap.size, 3, none⟩ = some (.int .i64 p.a) := cell_of_row _ _ 3 _ _ _ k0
  have x4 : W3.cell? ⟨w.heap.size, 4, none⟩ = some (.int .i64 p.b) := cell_of_row _ _ 4 _ _ _ k0
  have y0 : W3.cell? ⟨w.heap.size + 1, 0, none⟩ = some (.int .i64 e.th) := cell_of_row _ _ 0 _ _ _ k1
  have y1 : W3.cell? ⟨w.heap.size + 1, 1, none⟩ = some (.int .u8 (e.op : Int)) := cell_of_row _ _ 1 _ _ _ k1
  have y2 : W3.cell? ⟨w.heap.size + 1, 2, none⟩ = some (.int .i64 e.obj) := cell_of_row _ _ 2 _ _ _ k1
  have y3 : W3.cell? ⟨w.heap.size + 1, 3, none⟩ = some (.int .i64 e.a) := cell_of_row _ _ 3 _ _ _ k1
  have y4 : W3.cell? ⟨w.heap.size + 1, 4, none⟩ = some (.int .i64 e.b) := cell_of_row _ _ 4 _ _ _ k1
  have z0 : W3.cell? ⟨w.heap.size + 1 + 1, 0, none⟩ = some (.int .i64 f.th) := cell_of_row _ _ 0 _ _ _ k2
  have z1 : W3.cell? ⟨w.heap.size + 1 + 1, 1, none⟩ = some (.int .u8 (f.op : Int)) := cell_of_row _ _ 1 _ _ _ k2
  have z2 : W3.cell? ⟨w.heap.size + 1 + 1, 2, none⟩ = some (.int .i64 f.obj) := cell_of_row _ _ 2 _ _ _ k2
  have z3 : W3.cell? ⟨w.heap.size + 1 + 1, 3, none⟩ = some (.int .i64 f.a) := cell_of_row _ _ 3 _ _ _ k2
  have z4 : W3.cell? ⟨w.heap.size + 1 + 1, 4, none⟩ = some (.int .i64 f.b) := cell_of_row _ _ 4 _ _ _ k2
  clear k0 k1 k2
  refine wp_region_held_drew (S := fun w' => Below W3.heap.size W3 w') (by kernel_rfl) ((Below.refl _ W3).drew) (fun hHeld => ?_)
  refine wpAnyH_take (i := 0) (v := ?_) rfl (by kernel_rfl) (by kernel_rfl) (by kernel_rfl) (fun _ _ _ h => h) (Or.inl ⟨by rfl, ?_⟩) hHeld ?_
  rotate_left
  · (intro wy hSw; have z0 := cell_below hSw _ _ x0; have z1 := cell_below hSw _ _ x1; have z2 := cell_below hSw _ _ x2; have z3 := cell_below hSw _ _ x3; have z4 := cell_below hSw _ _ x4; go_simp <;> rfl)
  simp only [Act.put, List.getElem_toArray, List.getElem_cons_zero, List.getElem_cons_succ, List.setIfInBounds_toArray, List.set_cons_zero, List.set_cons_succ]
  refine wpAnyH_take (i := 1) (v := ?_) rfl (by kernel_rfl) (by kernel_rfl) (by kernel_rfl) (fun _ _ _ h => h) (Or.inl ⟨by rfl, ?_⟩) hHeld ?_
  rotate_left
  · (intro wy hSw; have z0 := cell_below hSw _ _ y0; have z1 := cell_below hSw _ _ y1; have z2 := cell_below hSw _ _ y2; have z3 := cell_below hSw _ _ y3; have z4 := cell_below hSw _ _ y4; go_simp <;> rfl)
  simp only [Act.put, List.getElem_toArray, List.getElem_cons_zero, List.getElem_cons_succ, List.setIfInBounds_toArray, List.set_cons_zero, List.set_cons_succ]
  refine wpAnyH_take (i := 3) (v := ?_) rfl (by kernel_rfl) (by kernel_rfl) (by kernel_rfl) (fun _ _ _ h => h) (Or.inl ⟨by rfl, ?_⟩) hHeld ?_
  rotate_left
  · (intro wy hSw; have z0 := cell_below hSw _ _ x0; have z1 := cell_below hSw _ _ x1; have z2 := cell_below hSw _ _ x2; have z3 := cell_below hSw _ _ x3; have z4 := cell_below hSw _ _ x4; go_simp <;> rfl)
  simp only [Act.put, List.getElem_toArray, List.getElem_cons_zero, List.getElem_cons_succ, List.setIfInBounds_toArray, List.set_cons_zero, List.set_cons_succ]
  refine wpAnyH_take (i := 4) (v := ?_) rfl (by kernel_rfl) (by kernel_rfl) (by kernel_rfl) (fun _ _ _ h => h) (Or.inl ⟨by rfl, ?_⟩) hHeld ?_
  rotate_left
  · (intro wy hSw; have z0 := cell_below hSw _ _ z0; have z1 := cell_below hSw _ _ z1; have z2 := cell_below hSw _ _ z2; have z3 := cell_below hSw _ _ z3; have z4 := cell_below hSw _ _ z4; go_simp <;> rfl)
  simp only [Act.put, List.getElem_toArray, List.getElem_cons_zero, List.getElem_cons_succ, List.setIfInBounds_toArray, List.set_cons_zero, List.set_cons_succ]
  refine wpAnyH_ready (rs := [2]) (by kernel_rfl) (by simp) ?_
  refine AllReadyH.cons rfl (fun K hK => ?_) AllReadyH.nil
  go_simp
  refine (Put_nil p e _ he.op).mono ?_
  rintro x w1 ⟨A1, n1, c1, rfl, hI1, hb1⟩
  have hS1 := bstep0 ((Below.refl _ W3).drew) hb1
  clear hb1
  dsimp only
  refine hK.out _ _ hS1 (fun hHeld => ?_)
  clear hK K
  try simp only [Act.put, List.getElem_toArray, List.getElem_cons_zero, List.getElem_cons_succ, List.setIfInBounds_toArray, List.set_cons_zero, List.set_cons_succ]
  refine wpAnyH_ready (rs := [5]) (by kernel_rfl) (by simp) ?_
  refine AllReadyH.cons rfl (fun K hK => ?_) AllReadyH.nil
  go_simp
  refine (Put_nil p f _ hf.op).mono ?_
  rintro x w2 ⟨A2, n2, c2, rfl, hI2, hb2⟩
  have hS2 := hS1.trans (hb2.mono hS1.size)
  have hI1' := hI1.below hb2
  clear hb2 hI1
  dsimp only
  refine hK.out _ _ hS2 (fun hHeld => ?_)
  clear hK K
  try simp only [Act.put, List.getElem_toArray, List.getElem_cons_zero, List.getElem_cons_succ, List.setIfInBounds_toArray, List.set_cons_zero, List.set_cons_succ]
  refine wpAnyH_take (i := 6) (v := ?_) rfl (by kernel_rfl) (by kernel_rfl) (by kernel_rfl) (fun _ _ _ h => h) (Or.inl ⟨by rfl, ?_⟩) hHeld ?_
  rotate_left
  · (intro w hSw; (try dsimp only at hSw); go_simp <;> rfl)
  simp only [Act.put, List.getElem_toArray, List.getElem_cons_zero, List.getElem_cons_succ, List.setIfInBounds_toArray, List.set_cons_zero, List.set_cons_succ]
  refine wpAnyH_take (i := 7) (v := ?_) rfl (by kernel_rfl) (by kernel_rfl) (by kernel_rfl) (fun _ _ _ h => h) (Or.inl ⟨by rfl, ?_⟩) hHeld ?_
  rotate_left
  · (intro w hSw; (try dsimp only at hSw); go_simp <;> rfl)
  simp only [Act.put, List.getElem_toArray, List.getElem_cons_zero, List.getElem_cons_succ, List.setIfInBounds_toArray, List.set_cons_zero, List.set_cons_succ]
  refine wpAnyH_done (by kernel_rfl) ?_ _
  have hB2 := hB3.trans (hS2.mono hB3.size)
  have y0 := cell_below hS2 _ _ y0
  have y1 := cell_below hS2 _ _ y1
  have y2 := cell_below hS2 _ _ y2
  have y3 := cell_below hS2 _ _ y3
  have y4 := cell_below hS2 _ _ y4
  have z0 := cell_below hS2 _ _ z0
  have z1 := cell_below hS2 _ _ z1
  have z2 := cell_below hS2 _ _ z2
  have z3 := cell_below hS2 _ _ z3
  have z4 := cell_below hS2 _ _ z4
  have hn1 := hI1'.len
  have hn2 := hI2.len
  have hc1 := hI1'.cap
  have hc2 := hI2.cap
  have HN1 := Lib.hid hn1
  have HN2 := Lib.hid hn2
  rw [hn1] at s1 s2
  rw [hn2] at s3 s4
  clear hn1 hn2 hS1 hHeld hS2 x0 x1 x2 x3 x4
  obtain ⟨n, hn⟩ : ∃ n, Hid (n = min n1 n2) := ⟨_, rfl⟩
  have hmin : min (n1 : Int) (n2 : Int) = (n : Int) := by rw [hn.out]; omega
  have q1 : decide ((n : Int) < 5) = false := by have := hn.out; simp; omega
  have q2 : decide ((41 : Int) < (n1 : Int)) = false := by simp; omega
  have q3 : decide ((41 : Int) < (n2 : Int)) = false := by simp; omega
  go_wp2_with fail
  refine (Put_nil e e _ he.op).mono ?_
  rintro x w3 ⟨A3, n3, c3, rfl, hI3, hb3⟩
  have hn3 : n3 = 5 := by rw [← hI3.len, encEv_self]; rfl
  subst hn3
  have hB4 := bstep0 hB2 hb3
  have hJ1 := hI1'.below hb3
  have hJ2 := hI2.below hb3
  have y0' := cell_below hb3 _ _ y0
  have y1' := cell_below hb3 _ _ y1
  have y2' := cell_below hb3 _ _ y2
  have y3' := cell_below hb3 _ _ y3
  have y4' := cell_below hb3 _ _ y4
  have z0' := cell_below hb3 _ _ z0
  have z1' := cell_below hb3 _ _ z1
  have z2' := cell_below hb3 _ _ z2
  have z3' := cell_below hb3 _ _ z3
  have z4' := cell_below hb3 _ _ z4
  clear hI3 hB2 hI1' hI2 hb3 y0 y1 y2 y3 y4 z0 z1 z2 z3 z4
  go_wp2_with fail
  obtain ⟨r, hr, heq⟩ : ∃ r : Bool, (r = decide (e = f)) ∧ ∀ W : World, (Op.equalIn 10000 24 (.agg #[.int .i64 e.th, .int .u8 (e.op : Int), .int .i64 e.obj, .int .i64 e.a, .int .i64 e.b]) (.agg #[.int .i64 f.th, .int .u8 (f.op : Int), .int .i64 f.obj, .int .i64 f.a, .int .i64 f.b])).run Try.prog W = .ok r W := ⟨_, rfl, fun W => run_eqEv e f W⟩
  have hrr : r = decide ((encEv p e).take n = (encEv p f).take n) := by rw [hr, apart_iff he hf (n := n) (by rw [HN1.out, HN2.out]; exact hn.out)]
  have HR := Lib.hid hrr
  have l1 : n ≤ n1 := by rw [hn.out]; omega
  have l2 : n ≤ n2 := by rw [hn.out]; omega
  have c1' : n ≤ c1 := by omega
  have c2' : n ≤ c2 := by omega
  have i0 : (0 : Int) ≤ (n : Int) := by omega
  have i1 : (n : Int) ≤ (c1 : Int) := by omega
  have i2 : (n : Int) ≤ (c2 : Int) := by omega
  clear hr hrr hmin q1 q2 q3 s1 s2 s3 s4
  refine wp_region_held_drew (S := fun w' => Below w3.heap.size w3 w') (by kernel_rfl) ((Below.refl _ w3).drew) (fun hHeld => ?_)
  refine wpAnyH_take (i := 0) (v := ?_) rfl (by kernel_rfl) (by kernel_rfl) (by kernel_rfl) (fun _ _ _ h => h) (Or.inl ⟨by rfl, ?_⟩) hHeld ?_
  rotate_left
  · (intro wy hSw; have z0 := cell_below hSw _ _ y0'; have z1 := cell_below hSw _ _ y1'; have z2 := cell_below hSw _ _ y2'; have z3 := cell_below hSw _ _ y3'; have z4 := cell_below hSw _ _ y4'; go_simp <;> rfl)
  simp only [Act.put, List.getElem_toArray, List.getElem_cons_zero, List.getElem_cons_succ, List.setIfInBounds_toArray, List.set_cons_zero, List.set_cons_succ]
  refine wpAnyH_take (i := 1) (v := ?_) rfl (by kernel_rfl) (by kernel_rfl) (by kernel_rfl) (fun _ _ _ h => h) (Or.inl ⟨by rfl, ?_⟩) hHeld ?_
  rotate_left
  · (intro wy hSw; have z0 := cell_below hSw _ _ z0'; have z1 := cell_below hSw _ _ z1'; have z2 := cell_below hSw _ _ z2'; have z3 := cell_below hSw _ _ z3'; have z4 := cell_below hSw _ _ z4'; go_simp <;> rfl)
  simp only [Act.put, List.getElem_toArray, List.getElem_cons_zero, List.getElem_cons_succ, List.setIfInBounds_toArray, List.set_cons_zero, List.set_cons_succ]
  refine wpAnyH_take (i := 2) (v := ?_) rfl (by kernel_rfl) (by kernel_rfl) (by kernel_rfl) (fun _ _ _ h => h) (Or.inl ⟨by rfl, ?_⟩) hHeld ?_
  rotate_left
  · (intro w hSw; (try dsimp only at hSw); go_simp <;> rfl)
  simp only [Act.put, List.getElem_toArray, List.getElem_cons_zero, List.getElem_cons_succ, List.setIfInBounds_toArray, List.set_cons_zero, List.set_cons_succ]
  refine wpAnyH_take (i := 3) (v := ?_) rfl (by kernel_rfl) (by kernel_rfl) (by kernel_rfl) (fun _ _ _ h => h) (Or.inl ⟨by rfl, ?_⟩) hHeld ?_
  rotate_left
  · (intro w hSw; (try dsimp only at hSw); go_simp <;> rfl)
  simp only [Act.put, List.getElem_toArray, List.getElem_cons_zero, List.getElem_cons_succ, List.setIfInBounds_toArray, List.set_cons_zero, List.set_cons_succ]
  refine wpAnyH_take (i := 4) (v := ?_) rfl (by kernel_rfl) (by kernel_rfl) (by kernel_rfl) (fun _ _ _ h => h) (Or.inl ⟨by rfl, ?_⟩) hHeld ?_
  rotate_left
  · (intro w hSw; (try dsimp only at hSw); go_simp <;> rfl)
  simp only [Act.put, List.getElem_toArray, List.getElem_cons_zero, List.getElem_cons_succ, List.setIfInBounds_toArray, List.set_cons_zero, List.set_cons_succ]
  refine wpAnyH_take (i := 5) (v := ?_) rfl (by kernel_rfl) (by kernel_rfl) (by kernel_rfl) (fun _ _ _ h => h) (Or.inl ⟨by rfl, ?_⟩) hHeld ?_
  rotate_left
  · (intro w hSw; (try dsimp only at hSw); go_simp <;> rfl)
  simp only [Act.put, List.getElem_toArray, List.getElem_cons_zero, List.getElem_cons_succ, List.setIfInBounds_toArray, List.set_cons_zero, List.set_cons_succ]
  refine wpAnyH_take (i := 6) (v := ?_) rfl (by kernel_rfl) (by kernel_rfl) (by kernel_rfl) (fun _ _ _ h => h) (Or.inl ⟨by rfl, ?_⟩) hHeld ?_
  rotate_left
  · (intro w hSw; (try dsimp only at hSw); go_simp <;> rfl)
  simp only [Act.put, List.getElem_toArray, List.getElem_cons_zero, List.getElem_cons_succ, List.setIfInBounds_toArray, List.set_cons_zero, List.set_cons_succ]
  refine wpAnyH_take (i := 7) (v := ?_) rfl (by kernel_rfl) (by kernel_rfl) (by kernel_rfl) (fun _ _ _ h => h) (Or.inl ⟨by rfl, ?_⟩) hHeld ?_
  rotate_left
  · (intro w hSw; (try dsimp only at hSw); go_simp <;> rfl)
  simp only [Act.put, List.getElem_toArray, List.getElem_cons_zero, List.getElem_cons_succ, List.setIfInBounds_toArray, List.set_cons_zero, List.set_cons_succ]
  refine wpAnyH_take (i := 8) (v := ?_) rfl (by kernel_rfl) (by kernel_rfl) (by kernel_rfl) (fun _ _ _ h => h) (Or.inl ⟨by rfl, ?_⟩) hHeld ?_
  rotate_left
  · (intro w hSw; (try dsimp only at hSw); go_simp <;> rfl)
  simp only [Act.put, List.getElem_toArray, List.getElem_cons_zero, List.getElem_cons_succ, List.setIfInBounds_toArray, List.set_cons_zero, List.set_cons_succ]
  refine wpAnyH_ready (rs := [9]) (by kernel_rfl) (by simp) ?_
  refine AllReadyH.cons rfl (fun K hK => ?_) AllReadyH.nil
  go_simp
  refine (samebytes_any ((hJ1.drew).take l1) ((hJ2.drew).take l2)).mono ?_
  rintro x w4 ⟨rfl, rfl⟩
  rw [← HR.out]
  dsimp only
  refine hK.out _ _ hHeld (fun hHeld => ?_)
  clear hK K
  try simp only [Act.put, List.getElem_toArray, List.getElem_cons_zero, List.getElem_cons_succ, List.setIfInBounds_toArray, List.set_cons_zero, List.set_cons_succ]
  refine wpAnyH_take (i := 10) (v := ?_) rfl (by kernel_rfl) (by kernel_rfl) (by kernel_rfl) (fun _ _ _ h => h) (Or.inl ⟨by rfl, ?_⟩) hHeld ?_
  rotate_left
  · (intro w hSw; (try dsimp only at hSw); go_simp <;> rfl)
  simp only [Act.put, List.getElem_toArray, List.getElem_cons_zero, List.getElem_cons_succ, List.setIfInBounds_toArray, List.set_cons_zero, List.set_cons_succ]
  refine wpAnyH_take (i := 11) (v := ?_) rfl (by kernel_rfl) (by kernel_rfl) (by kernel_rfl) (fun _ _ _ h => h) (Or.inl ⟨by rfl, ?_⟩) hHeld ?_
  rotate_left
  · (intro w hSw; (try dsimp only at hSw); go_simp <;> rfl)
  simp only [Act.put, List.getElem_toArray, List.getElem_cons_zero, List.getElem_cons_succ, List.setIfInBounds_toArray, List.set_cons_zero, List.set_cons_succ]
  refine wpAnyH_ready (rs := [12]) (by kernel_rfl) (by simp) ?_
  refine AllReadyH.cons rfl (fun K hK => ?_) AllReadyH.nil
  go_simp
  refine (awake3_any _).mono ?_
  rintro x w5 ⟨rfl, hb5⟩
  have hS5 := bstep0 ((Below.refl _ w3).drew) hb5
  dsimp only
  refine hK.out _ _ hS5 (fun hHeld => ?_)
  clear hK K
  try simp only [Act.put, List.getElem_toArray, List.getElem_cons_zero, List.getElem_cons_succ, List.setIfInBounds_toArray, List.set_cons_zero, List.set_cons_succ]
  refine wpAnyH_take (i := 13) (v := ?_) rfl (by kernel_rfl) (by kernel_rfl) (by kernel_rfl) (fun _ _ _ h => h) (Or.inl ⟨by rfl, ?_⟩) hHeld ?_
  rotate_left
  · (intro w hSw; (try dsimp only at hSw); go_simp <;> rfl)
  simp only [Act.put, List.getElem_toArray, List.getElem_cons_zero, List.getElem_cons_succ, List.setIfInBounds_toArray, List.set_cons_zero, List.set_cons_succ]
  refine wpAnyH_take (i := 14) (v := ?_) rfl (by kernel_rfl) (by kernel_rfl) (by kernel_rfl) (fun _ _ _ h => h) (Or.inl ⟨by rfl, ?_⟩) hHeld ?_
  rotate_left
  · (intro w hSw; (try dsimp only at hSw); go_simp <;> rfl)
  simp only [Act.put, List.getElem_toArray, List.getElem_cons_zero, List.getElem_cons_succ, List.setIfInBounds_toArray, List.set_cons_zero, List.set_cons_succ]
  refine wpAnyH_done (by kernel_rfl) ?_ _
  go_wp2_with fail
  go_ret
  exact ⟨rfl, hB4.trans (hS5.mono hB4.size)⟩
end Go.Proofs.Ytindmilfkcggaaa
