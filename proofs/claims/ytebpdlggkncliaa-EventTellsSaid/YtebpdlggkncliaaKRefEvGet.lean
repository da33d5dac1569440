/-
  The document's own Get (amanuensisref03).
-/
import Derived.Test.YtebpdlggkncliaaK4
import Derived.Test.YtebpdlggkncliaaKRefFrame
set_option linter.unusedVariables false
set_option linter.unusedSimpArgs false
namespace Go.Proofs.Ytebpdlggkncliaa
open Go.RowKit
open Go.Lib (byteCells byteCells_length byteCells_append uvarint)

theorem cells5 {w : World} {b : Nat} {v0 v1 v2 v3 v4 : Value} {t : TypeId} {fr : Nat × Nat} (h : w.heap[b]? = some (.cells #[v0, v1, v2, v3, v4] t fr)) :
    w.cell? ⟨b, 0, none⟩ = some v0 ∧ w.cell? ⟨b, 1, none⟩ = some v1 ∧ w.cell? ⟨b, 2, none⟩ = some v2 ∧ w.cell? ⟨b, 3, none⟩ = some v3 ∧ w.cell? ⟨b, 4, none⟩ = some v4 :=
  ⟨cell_of_row _ _ 0 _ _ _ h, cell_of_row _ _ 1 _ _ _ h, cell_of_row _ _ 2 _ _ _ h, cell_of_row _ _ 3 _ _ _ h, cell_of_row _ _ 4 _ _ _ h⟩
theorem frees5 {w : World} {b : Nat} {v0 v1 v2 v3 v4 : Value} {t : TypeId} (h : w.heap[b]? = some (.cells #[v0, v1, v2, v3, v4] t (0, 0))) :
    w.frozen? ⟨b, 0, none⟩ = false ∧ w.frozen? ⟨b, 1, none⟩ = false ∧ w.frozen? ⟨b, 2, none⟩ = false ∧ w.frozen? ⟨b, 3, none⟩ = false ∧ w.frozen? ⟨b, 4, none⟩ = false :=
  ⟨free_of_row h 0, free_of_row h 1, free_of_row h 2, free_of_row h 3, free_of_row h 4⟩
set_option maxRecDepth 100000 in
set_option maxHeartbeats 4000000 in
theorem refGet_out (A : Option Addr) (n c : Nat) (k : Int) (p : Ev) (w : World) (hk : k < 0 ∨ (n : Int) < k) :
    Calls Try.prog 43 #[.slice A n c, .int .i64 k, .agg #[.int .i64 p.th, .int .u8 (p.op : Int), .int .i64 p.obj, .int .i64 p.a, .int .i64 p.b]] w fun e w' => e = .returned (ansE (Ev.zero, 0, 2)) ∧ Below w.heap.size w w' := by
  by_cases h0 : k < 0
  · have hd0 : decide (k < 0) = true := decide_eq_true h0
    clear hk
    go_enter Try.func43, Try.ntmps43
    go_wp2_with fail
    refine bodyPost_ret (v := ansE (Ev.zero, 0, 2)) (by simp [results, Try.results43, go_sem, ansE, Ev.zero]) rfl ⟨rfl, ?_⟩
    go_grown
  · have hd0 : decide (k < 0) = false := decide_eq_false h0
    have hd1 : decide ((n : Int) < k) = true := decide_eq_true (by omega)
    clear hk h0
    go_enter Try.func43, Try.ntmps43
    go_wp2_with fail
    refine bodyPost_ret (v := ansE (Ev.zero, 0, 2)) (by simp [results, Try.results43, go_sem, ansE, Ev.zero]) rfl ⟨rfl, ?_⟩
    go_grown
set_option maxRecDepth 100000 in
set_option maxHeartbeats 4000000 in
theorem refGet_end (A : Option Addr) (n c : Nat) (l : List UInt8) (p : Ev) (w : World) (hl : l.length = n) :
    Calls Try.prog 43 #[.slice A n c, .int .i64 (n : Int), .agg #[.int .i64 p.th, .int .u8 (p.op : Int), .int .i64 p.obj, .int .i64 p.a, .int .i64 p.b]] w fun e w' => e = .returned (ansE (getEv p l n)) ∧ Below w.heap.size w w' := by
  have hg : getEv p l n = (Ev.zero, 0, 11) := by
    unfold getEv
    rw [List.getElem?_eq_none (by omega)]
  rw [hg]
  have hd0 : decide ((n : Int) < 0) = false := decide_eq_false (by omega)
  clear hg hl
  go_enter Try.func43, Try.ntmps43
  go_wp2_with fail
  refine bodyPost_ret (v := ansE (Ev.zero, 0, 11)) (by simp [results, Try.results43, go_sem, ansE, Ev.zero]) rfl ⟨rfl, ?_⟩
  go_grown
set_option maxRecDepth 100000 in
set_option maxHeartbeats 4000000 in
theorem refGet_in (A : Option Addr) (n c k : Nat) (l : List UInt8) (p : Ev) (w : World) (h : IsB w A n c l) (hn : n ≤ 1000000) (hk : k < n) :
    Calls Try.prog 43 #[.slice A n c, .int .i64 (k : Int), .agg #[.int .i64 p.th, .int .u8 (p.op : Int), .int .i64 p.obj, .int .i64 p.a, .int .i64 p.b]] w fun e w' => e = .returned (ansE (getEv p l k)) ∧ Below w.heap.size w w' := by
  have hl := h.len
  obtain ⟨x, hx⟩ : ∃ x, l[k]? = some x := ⟨l[k]'(by omega), List.getElem?_eq_getElem _⟩
  obtain ⟨b, o, rfl, hc⟩ : ∃ b o, A = some ⟨b, o, none⟩ ∧ w.cell? ⟨b, o + k, none⟩ = some (.int .u8 (x.toNat : Int)) := by
    rcases h.src with h0 | ⟨b, o, hA, hc⟩
    · rw [h0] at hl; simp at hl; omega
    · exact ⟨b, o, hA, hc _ _ hx⟩
  have hd0 : decide ((k : Int) < 0) = false := decide_eq_false (by omega)
  have hd1 : decide ((n : Int) < (k : Int)) = false := decide_eq_false (by omega)
  have hd2 : ((k : Int) == (n : Int)) = false := beq_eq_false_iff_ne.2 (by omega)
  have hd3 : (n < k) = False := by simp; omega
  obtain ⟨hB0, q1, q2⟩ : Below w.heap.size w ((w.alloc (.cells #[.int .i64 p.th, .int .u8 (p.op : Int), .int .i64 p.obj, .int .i64 p.a, .int .i64 p.b] 70)).alloc (.cells #[.int .i64 0, .int .u8 0, .int .i64 0, .int .i64 0, .int .i64 0] 70)) ∧ ((w.alloc (.cells #[.int .i64 p.th, .int .u8 (p.op : Int), .int .i64 p.obj, .int .i64 p.a, .int .i64 p.b] 70)).alloc (.cells #[.int .i64 0, .int .u8 0, .int .i64 0, .int .i64 0, .int .i64 0] 70)).heap[w.heap.size]? = some (.cells #[.int .i64 p.th, .int .u8 (p.op : Int), .int .i64 p.obj, .int .i64 p.a, .int .i64 p.b] 70 (0, 0)) ∧ ((w.alloc (.cells #[.int .i64 p.th, .int .u8 (p.op : Int), .int .i64 p.obj, .int .i64 p.a, .int .i64 p.b] 70)).alloc (.cells #[.int .i64 0, .int .u8 0, .int .i64 0, .int .i64 0, .int .i64 0] 70)).heap[w.heap.size + 1]? = some (.cells #[.int .i64 0, .int .u8 0, .int .i64 0, .int .i64 0, .int .i64 0] 70 (0, 0)) := by
    have hz : (w.alloc (.cells #[.int .i64 p.th, .int .u8 (p.op : Int), .int .i64 p.obj, .int .i64 p.a, .int .i64 p.b] 70)).heap.size = w.heap.size + 1 := Array.size_push _
    refine ⟨((Below.refl _ w).alloc (Nat.le_refl _) _).alloc (by rw [hz]; omega) _, (heap_alloc_old _ _ (by rw [hz]; omega)).trans (heap_alloc_new _ _), ?_⟩
    have := heap_alloc_new (w.alloc (.cells #[.int .i64 p.th, .int .u8 (p.op : Int), .int .i64 p.obj, .int .i64 p.a, .int .i64 p.b] 70)) (.cells #[.int .i64 0, .int .u8 0, .int .i64 0, .int .i64 0, .int .i64 0] 70)
    rwa [hz] at this
  have hc4 := cell_below hB0 _ _ hc
  obtain ⟨kp0, kp1, kp2, kp3, kp4⟩ := cells5 q1
  have hI0 := h.below hB0
  have HX := Lib.hid hx
  have HI := Lib.hid hI0
  have HL := Lib.hid hl
  clear hx h hl hI0 hc
  go_enter Try.func43, Try.ntmps43
  go_wp2_with fail
  generalize ((w.alloc (.cells #[.int .i64 p.th, .int .u8 (p.op : Int), .int .i64 p.obj, .int .i64 p.a, .int .i64 p.b] 70)).alloc (.cells #[.int .i64 0, .int .u8 0, .int .i64 0, .int .i64 0, .int .i64 0] 70)) = W0 at hB0 q1 q2 hc4 kp0 kp1 kp2 kp3 kp4 HI ⊢
  refine (four_any p W0).mono ?_
  rintro e w2 ⟨rfl, hb2⟩
  have q2' := (hb2.block _ (Array.getElem?_eq_some_iff.1 q2).1).trans q2
  have hB2 := hB0.trans (hb2.mono hB0.size)
  have HI2 := Lib.hid (HI.out.below hb2)
  have hsz := (Array.getElem?_eq_some_iff.1 q2').1
  clear hb2 q1 q2 hc4 kp0 kp1 kp2 kp3 kp4 hB0
  have hg : (w2.alloc (.cells #[.int .i64 p.th, .int .i64 p.obj, .int .i64 p.a, .int .i64 p.b] 131)).heap[w2.heap.size]? = some (.cells #[.int .i64 p.th, .int .i64 p.obj, .int .i64 p.a, .int .i64 p.b] 131 (0, 0)) := heap_alloc_new _ _
  have hbg : Below w2.heap.size w2 (w2.alloc (.cells #[.int .i64 p.th, .int .i64 p.obj, .int .i64 p.a, .int .i64 p.b] 131)) := (Below.refl _ _).alloc (Nat.le_refl _) _
  obtain ⟨g, hgg⟩ : ∃ g, Hid (g = w2.heap.size) := ⟨_, rfl⟩
  go_wp2_with fail
  rw [← hgg.out] at hg ⊢
  generalize w2.alloc (.cells #[.int .i64 p.th, .int .i64 p.obj, .int .i64 p.a, .int .i64 p.b] 131) = W3 at hg hbg ⊢
  go_loopw [1, 11] (fun a q wr => ∃ (j k' : Nat), q = .int .i64 (j : Int) ∧ j ≤ 4 ∧ a = .int .i64 (k' : Int) ∧ k' ≤ n ∧ Hid (stpN l j (k + 1, 0) = (k', 0)) ∧
    wr.heap[g]? = some (.cells #[.int .i64 (numAt p l (k + 1, 0) j 0), .int .i64 (numAt p l (k + 1, 0) j 1), .int .i64 (numAt p l (k + 1, 0) j 2), .int .i64 (numAt p l (k + 1, 0) j 3)] 131 (0, 0)) ∧ Below w2.heap.size w2 wr) (fun _ q _ => 4 - (intOf q).toNat)
  case atStart => exact ⟨0, k + 1, rfl, by omega, by go_num, by omega, rfl, hg, hbg⟩
  case round =>
    clear hg hbg
    obtain ⟨j, k', rfl, hj, rfl, hk', hs, hg, hB⟩ := hrel
    have hr2 := (hB.block _ hsz).trans q2'
    have HIr := Lib.hid (HI2.out.below hB)
    have hgl := (Array.getElem?_eq_some_iff.1 hg).1
    have hne : w.heap.size + 1 ≠ g := by rw [hgg.out]; omega
    by_cases hj4 : j < 4
    · have hGI := refGetInt_any (some ⟨b, o, none⟩) n c k' l wr HIr.out (by omega) hk'
      have hsn := stpN_next hs.out
      have hle := getU_le (l.drop k')
      rw [List.length_drop, HL.out] at hle
      have hdr : Hid (nextU k' (getU (l.drop k')) ≤ n) := by
        show _ ≤ _
        unfold nextU
        split
        · rename_i h0
          have := hle h0
          omega
        · omega
      have hnw := fun (i : Nat) (e : j = i) => numAt_new (p := p) (e ▸ hs.out)
      obtain ⟨X, hX⟩ : ∃ X, X = Lib.unzigzag (getU (l.drop k')).1 := ⟨_, rfl⟩
      obtain ⟨K2, hK2⟩ : ∃ K2, K2 = nextU k' (getU (l.drop k')) := ⟨_, rfl⟩
      obtain ⟨f, hf⟩ : ∃ f, f = (getU (l.drop k')).2.2 := ⟨_, rfl⟩
      unfold ansI at hGI
      rw [← hX] at hGI
      simp only [← hX] at hnw
      rw [← hK2] at hGI hdr
      rw [← hf] at hGI
      rw [← hK2, ← hf] at hsn
      have HGI := Lib.hid hGI
      have HSN := Lib.hid hsn
      clear hGI hsn hle hX hK2 hf HIr
      by_cases h0 : f = 0
      · subst h0
        have d0 : (((0 : Nat) : Int) != 0) = false := by simp
        obtain rfl | rfl | rfl | rfl : j = 0 ∨ j = 1 ∨ j = 2 ∨ j = 3 := by omega
        · have hnj := hnw 0 rfl
          have c0 : wr.cell? ⟨g, 0, none⟩ = some (.int .i64 (numAt p l (k + 1, 0) 0 0)) := cell_of_row wr _ 0 _ _ _ hg
          obtain ⟨N, hN⟩ : ∃ N, Hid (N = numAt p l (k + 1, 0) 0 0) := ⟨_, rfl⟩
          rw [← hN.out] at c0 hnj
          obtain ⟨D, hD, hDd⟩ : ∃ D, IntKind.i64.wrap (IntKind.u64.wrap (IntKind.u64.wrap N + IntKind.u64.wrap X)) = D ∧ Hid (D = numAt p l (k + 1, 0) 1 0) := ⟨_, rfl, (u64_add N X).trans hnj.symm⟩
          have HG := Lib.hid hg
          have HNW := Lib.hid hnj
          clear hnw hg hnj hr2
          go_wp2_with fail
          refine HGI.out.mono ?_
          rintro e w3 ⟨rfl, hb3⟩
          have hg3 := (hb3.block _ hgl).trans HG.out
          have c3 : w3.cell? ⟨g, 0, none⟩ = some (.int .i64 N) := cell_below hb3 _ _ c0
          have f3 := free_of_row hg3 0
          have hB3 := hB.trans (hb3.mono hB.size)
          have HB4 := Lib.hid (hB3.setCell (p := ⟨g, 0, none⟩) (by show w2.heap.size ≤ g; rw [hgg.out]; exact Nat.le_refl _) (.int .i64 D))
          have HG4 := Lib.hid (set_blk hg3 0 (.int .i64 D))
          clear hB hb3 hg3 hB3 c0
          go_wp2_with fail
          go_roundw
          case rel =>
            refine ⟨1, K2, rfl, by omega, rfl, hdr.out, HSN.out, ?_, HB4.out⟩
            rw [HG4.out, hDd.out, numAt_same (p := p) (l := l) (s := (k + 1, 0)) (j := 0) (i := 1) (by decide), numAt_same (p := p) (l := l) (s := (k + 1, 0)) (j := 0) (i := 2) (by decide), numAt_same (p := p) (l := l) (s := (k + 1, 0)) (j := 0) (i := 3) (by decide)]
            rfl
          case measure => simp [intOf]
        · have hnj := hnw 1 rfl
          have c0 : wr.cell? ⟨g, 1, none⟩ = some (.int .i64 (numAt p l (k + 1, 0) 1 1)) := cell_of_row wr _ 1 _ _ _ hg
          obtain ⟨N, hN⟩ : ∃ N, Hid (N = numAt p l (k + 1, 0) 1 1) := ⟨_, rfl⟩
          rw [← hN.out] at c0 hnj
          obtain ⟨D, hD, hDd⟩ : ∃ D, IntKind.i64.wrap (IntKind.u64.wrap (IntKind.u64.wrap N + IntKind.u64.wrap X)) = D ∧ Hid (D = numAt p l (k + 1, 0) 2 1) := ⟨_, rfl, (u64_add N X).trans hnj.symm⟩
          have HG := Lib.hid hg
          have HNW := Lib.hid hnj
          clear hnw hg hnj hr2
          go_wp2_with fail
          refine HGI.out.mono ?_
          rintro e w3 ⟨rfl, hb3⟩
          have hg3 := (hb3.block _ hgl).trans HG.out
          have c3 : w3.cell? ⟨g, 1, none⟩ = some (.int .i64 N) := cell_below hb3 _ _ c0
          have f3 := free_of_row hg3 1
          have hB3 := hB.trans (hb3.mono hB.size)
          have HB4 := Lib.hid (hB3.setCell (p := ⟨g, 1, none⟩) (by show w2.heap.size ≤ g; rw [hgg.out]; exact Nat.le_refl _) (.int .i64 D))
          have HG4 := Lib.hid (set_blk hg3 1 (.int .i64 D))
          clear hB hb3 hg3 hB3 c0
          go_wp2_with fail
          go_roundw
          case rel =>
            refine ⟨2, K2, rfl, by omega, rfl, hdr.out, HSN.out, ?_, HB4.out⟩
            rw [HG4.out, hDd.out, numAt_same (p := p) (l := l) (s := (k + 1, 0)) (j := 1) (i := 0) (by decide), numAt_same (p := p) (l := l) (s := (k + 1, 0)) (j := 1) (i := 2) (by decide), numAt_same (p := p) (l := l) (s := (k + 1, 0)) (j := 1) (i := 3) (by decide)]
            rfl
          case measure => simp [intOf]
        · have hnj := hnw 2 rfl
          have c0 : wr.cell? ⟨g, 2, none⟩ = some (.int .i64 (numAt p l (k + 1, 0) 2 2)) := cell_of_row wr _ 2 _ _ _ hg
          obtain ⟨N, hN⟩ : ∃ N, Hid (N = numAt p l (k + 1, 0) 2 2) := ⟨_, rfl⟩
          rw [← hN.out] at c0 hnj
          obtain ⟨D, hD, hDd⟩ : ∃ D, IntKind.i64.wrap (IntKind.u64.wrap (IntKind.u64.wrap N + IntKind.u64.wrap X)) = D ∧ Hid (D = numAt p l (k + 1, 0) 3 2) := ⟨_, rfl, (u64_add N X).trans hnj.symm⟩
          have HG := Lib.hid hg
          have HNW := Lib.hid hnj
          clear hnw hg hnj hr2
          go_wp2_with fail
          refine HGI.out.mono ?_
          rintro e w3 ⟨rfl, hb3⟩
          have hg3 := (hb3.block _ hgl).trans HG.out
          have c3 : w3.cell? ⟨g, 2, none⟩ = some (.int .i64 N) := cell_below hb3 _ _ c0
          have f3 := free_of_row hg3 2
          have hB3 := hB.trans (hb3.mono hB.size)
          have HB4 := Lib.hid (hB3.setCell (p := ⟨g, 2, none⟩) (by show w2.heap.size ≤ g; rw [hgg.out]; exact Nat.le_refl _) (.int .i64 D))
          have HG4 := Lib.hid (set_blk hg3 2 (.int .i64 D))
          clear hB hb3 hg3 hB3 c0
          go_wp2_with fail
          go_roundw
          case rel =>
            refine ⟨3, K2, rfl, by omega, rfl, hdr.out, HSN.out, ?_, HB4.out⟩
            rw [HG4.out, hDd.out, numAt_same (p := p) (l := l) (s := (k + 1, 0)) (j := 2) (i := 0) (by decide), numAt_same (p := p) (l := l) (s := (k + 1, 0)) (j := 2) (i := 1) (by decide), numAt_same (p := p) (l := l) (s := (k + 1, 0)) (j := 2) (i := 3) (by decide)]
            rfl
          case measure => simp [intOf]
        · have hnj := hnw 3 rfl
          have c0 : wr.cell? ⟨g, 3, none⟩ = some (.int .i64 (numAt p l (k + 1, 0) 3 3)) := cell_of_row wr _ 3 _ _ _ hg
          obtain ⟨N, hN⟩ : ∃ N, Hid (N = numAt p l (k + 1, 0) 3 3) := ⟨_, rfl⟩
          rw [← hN.out] at c0 hnj
          obtain ⟨D, hD, hDd⟩ : ∃ D, IntKind.i64.wrap (IntKind.u64.wrap (IntKind.u64.wrap N + IntKind.u64.wrap X)) = D ∧ Hid (D = numAt p l (k + 1, 0) 4 3) := ⟨_, rfl, (u64_add N X).trans hnj.symm⟩
          have HG := Lib.hid hg
          have HNW := Lib.hid hnj
          clear hnw hg hnj hr2
          go_wp2_with fail
          refine HGI.out.mono ?_
          rintro e w3 ⟨rfl, hb3⟩
          have hg3 := (hb3.block _ hgl).trans HG.out
          have c3 : w3.cell? ⟨g, 3, none⟩ = some (.int .i64 N) := cell_below hb3 _ _ c0
          have f3 := free_of_row hg3 3
          have hB3 := hB.trans (hb3.mono hB.size)
          have HB4 := Lib.hid (hB3.setCell (p := ⟨g, 3, none⟩) (by show w2.heap.size ≤ g; rw [hgg.out]; exact Nat.le_refl _) (.int .i64 D))
          have HG4 := Lib.hid (set_blk hg3 3 (.int .i64 D))
          clear hB hb3 hg3 hB3 c0
          go_wp2_with fail
          go_roundw
          case rel =>
            refine ⟨4, K2, rfl, by omega, rfl, hdr.out, HSN.out, ?_, HB4.out⟩
            rw [HG4.out, hDd.out, numAt_same (p := p) (l := l) (s := (k + 1, 0)) (j := 3) (i := 0) (by decide), numAt_same (p := p) (l := l) (s := (k + 1, 0)) (j := 3) (i := 1) (by decide), numAt_same (p := p) (l := l) (s := (k + 1, 0)) (j := 3) (i := 2) (by decide)]
            rfl
          case measure => simp [intOf]
      · have hst := getEv_stop (p := p) HX.out (j := j + 1) (by omega) (congrArg Prod.snd HSN.out) h0
        dsimp only at hst
        have HST := Lib.hid hst
        have d0 : ((f : Int) != 0) = true := by simp; omega
        clear hst hnw hs HSN hg
        have HR2 := Lib.hid hr2
        clear hr2
        have g4 : decide ((j : Int) < 4) = true := decide_eq_true (by omega)
        go_wp2_with fail
        refine HGI.out.mono ?_
        rintro e w3 ⟨rfl, hb3⟩
        have q3 := (hb3.block _ (Array.getElem?_eq_some_iff.1 HR2.out).1).trans HR2.out
        obtain ⟨z0, z1, z2, z3, z4⟩ := cells5 q3
        obtain ⟨y0, y1, y2, y3, y4⟩ := frees5 q3
        have hB3 := hB2.trans ((hB.trans (hb3.mono hB.size)).mono hB2.size)
        clear q3 hb3 hB
        go_wp2_with fail
        refine bodyPost_ret (v := ansE (Ev.zero, 0, f)) (by simp [results, Try.results43, go_sem, ansE, Ev.zero, z0, z1, z2, z3, z4]) rfl ⟨by rw [HST.out], ?_⟩
        exact ((((hB3.setCell (p := ⟨w.heap.size + 1, 0, none⟩) (Nat.le_succ _) _).setCell (p := ⟨w.heap.size + 1, 1, none⟩) (Nat.le_succ _) _).setCell (p := ⟨w.heap.size + 1, 2, none⟩) (Nat.le_succ _) _).setCell (p := ⟨w.heap.size + 1, 3, none⟩) (Nat.le_succ _) _).setCell (p := ⟨w.heap.size + 1, 4, none⟩) (Nat.le_succ _) _
    · obtain rfl : j = 4 := by omega
      have hge := getEv_all (p := p) HX.out hs.out
      rw [raw_nums] at hge
      obtain ⟨n0, hn0⟩ : ∃ x, x = numAt p l (k + 1, 0) 4 0 := ⟨_, rfl⟩
      obtain ⟨n1, hn1⟩ : ∃ x, x = numAt p l (k + 1, 0) 4 1 := ⟨_, rfl⟩
      obtain ⟨n2, hn2⟩ : ∃ x, x = numAt p l (k + 1, 0) 4 2 := ⟨_, rfl⟩
      obtain ⟨n3, hn3⟩ : ∃ x, x = numAt p l (k + 1, 0) 4 3 := ⟨_, rfl⟩
      rw [← hn0, ← hn1, ← hn2, ← hn3] at hge hg
      have HGE := Lib.hid hge
      have a0 : wr.cell? ⟨g, 0, none⟩ = some (.int .i64 n0) := cell_of_row wr _ 0 _ _ _ hg
      have a1 : wr.cell? ⟨g, 1, none⟩ = some (.int .i64 n1) := cell_of_row wr _ 1 _ _ _ hg
      have a2 : wr.cell? ⟨g, 2, none⟩ = some (.int .i64 n2) := cell_of_row wr _ 2 _ _ _ hg
      have a3 : wr.cell? ⟨g, 3, none⟩ = some (.int .i64 n3) := cell_of_row wr _ 3 _ _ _ hg
      obtain ⟨z0, z1, z2, z3, z4⟩ := cells5 hr2
      obtain ⟨y0, y1, y2, y3, y4⟩ := frees5 hr2
      have hB3 := hB2.trans (hB.mono hB2.size)
      have HB3 := Lib.hid hB3
      clear hn0 hn1 hn2 hn3 hge hg hr2 hs hB3 hB
      go_wp2_with fail
      refine bodyPost_ret (v := ansE (⟨n0, x.toNat, n1, n2, n3⟩, k', 0)) (by simp [results, Try.results43, go_sem, ansE, z0, z1, z2, z3, z4]) rfl ⟨by rw [HGE.out], ?_⟩
      exact ((((HB3.out.setCell (p := ⟨w.heap.size + 1, 0, none⟩) (Nat.le_succ _) _).setCell (p := ⟨w.heap.size + 1, 1, none⟩) (Nat.le_succ _) _).setCell (p := ⟨w.heap.size + 1, 2, none⟩) (Nat.le_succ _) _).setCell (p := ⟨w.heap.size + 1, 3, none⟩) (Nat.le_succ _) _).setCell (p := ⟨w.heap.size + 1, 4, none⟩) (Nat.le_succ _) _
theorem refGet_any (A : Option Addr) (n c k : Nat) (l : List UInt8) (p : Ev) (w : World) (h : IsB w A n c l) (hn : n ≤ 1000000) (hk : k ≤ n) :
    Calls Try.prog 43 #[.slice A n c, .int .i64 (k : Int), .agg #[.int .i64 p.th, .int .u8 (p.op : Int), .int .i64 p.obj, .int .i64 p.a, .int .i64 p.b]] w fun e w' => e = .returned (ansE (getEv p l k)) ∧ Below w.heap.size w w' := by
  by_cases hkn : k = n
  · subst hkn
    exact refGet_end A k c l p w h.len
  · exact refGet_in A n c k l p w h hn (by omega)
end Go.Proofs.Ytebpdlggkncliaa
