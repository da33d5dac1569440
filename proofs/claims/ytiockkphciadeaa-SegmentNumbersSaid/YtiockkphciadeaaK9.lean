/-
  Head, Pack, Scan and Unpack as the statements meet them.
-/
import Derived.Test.YtiockkphciadeaaKSgAwake
import Derived.Test.YtiockkphciadeaaK5
import Derived.Laws.MakeOwn
import Derived.KernelRfl
import Derived.Deep.CutRange
set_option linter.unusedVariables false
set_option linter.unusedSimpArgs false
namespace Go.Proofs.Ytiockkphciadeaa
open Go.RowKit
open Go.Lib (byteCells byteCells_length byteCells_append uvarint)

theorem Head_is (first : Nat) (w : World) (hf : first ≤ 4611686018427387904) :
    Calls Try.prog 35 #[.int .i64 (first : Int)] w fun e w' => ∃ A m c, e = .returned (.tuple #[.slice A m c, .int .i64 0]) ∧ IsB w' A m c (headOf first) ∧ Below w.heap.size w w' := by
  refine (Head_any first w hf).mono ?_
  rintro e w' ⟨v, rfl, ho, hb⟩
  obtain ⟨A, m, c, rfl, hI⟩ := own_slice ho
  exact ⟨A, m, c, rfl, hI, hb⟩
theorem Pack_is (first : Nat) (A : Option Addr) (n c : Nat) (es : List Ev) (w : World) (h : IsEv w A n c es) (h1 : 1 ≤ n) (hn : n ≤ 1048576) (hok : ∀ x ∈ es, x.ok) (hf : first ≤ 4611686018427387904) :
    Calls Try.prog 42 #[.int .i64 (first : Int), .slice A n c] w fun e w' => ∃ A' m c', e = .returned (.tuple #[.slice A' m c', .int .i64 0]) ∧ IsB w' A' m c' (sealed (denseOf first es)) ∧ Below w.heap.size w w' := by
  refine (Pack_any first A n c es w h h1 hn hok hf).mono ?_
  rintro e w' ⟨v, rfl, ho, hb⟩
  obtain ⟨A', m, c', rfl, hI⟩ := own_slice ho
  exact ⟨A', m, c', rfl, hI, hb⟩
theorem Scan_is {w : World} {A : Option Addr} {n c f k : Nat} {l : List UInt8} {es : List Ev} (h : IsB w A n c l) (hn : n ≤ 1000000) (hs : scanOf l = (f, es, k, 0)) :
    Calls Try.prog 38 #[.slice A n c] w fun e w' => ∃ B b d, e = .returned (.tuple #[.int .i64 (f : Int), .slice B b d, .int .i64 (k : Int), .int .i64 0]) ∧ IsEv w' B b d es ∧ Below w.heap.size w w' := by
  refine (Scan_any A n c l w h hn).mono ?_
  rintro e w' ⟨⟨v, rfl, hO⟩, hb⟩
  rw [hs] at hO ⊢
  obtain ⟨B, b, d, rfl, hI, -, -⟩ := hO.is_
  exact ⟨B, b, d, rfl, hI, hb⟩
theorem Unpack_is {w : World} {A : Option Addr} {n c f : Nat} {l : List UInt8} {es : List Ev} (h : IsB w A n c l) (hn : n ≤ 1000000) (hs : unpackOf l = (f, es, 0)) :
    Calls Try.prog 43 #[.slice A n c] w fun e w' => ∃ B b d, e = .returned (.tuple #[.int .i64 (f : Int), .slice B b d, .int .i64 0]) ∧ IsEv w' B b d es ∧ Below w.heap.size w w' := by
  refine (Unpack_any A n c l w h hn).mono ?_
  rintro e w' ⟨⟨v, rfl, hO⟩, hb⟩
  rw [hs] at hO ⊢
  obtain ⟨B, b, d, rfl, hI, -, -⟩ := hO.is_
  exact ⟨B, b, d, rfl, hI, hb⟩
theorem scan_head (f : Nat) (hf : f ≤ 4611686018427387904) : scanOf (headOf f) = (f, [], (headOf f).length, 0) := by
  have h := scanOf_seg (l := headOf f) (r := []) (first := f) (fs := []) hf (fun f hf => by cases hf) (by simp [framesOf]) (rd_end (by show (headOf f).length ≤ (headOf f).length + 0; omega))
  rw [h]
  rfl
theorem cols_small (es : List Ev) (h : es.length ≤ 1048576) : ∀ k, (colsTo es k).length ≤ 20 * es.length * k
  | 0 => by simp [colsTo]
  | k + 1 => by
    have h1 := cols_small es h k
    have h2 := numsBytes_most (es.map (colGet k)) (by rw [List.length_map]; exact h)
    rw [List.length_map] at h2
    show (colsTo es k ++ _).length ≤ _
    rw [List.length_append, Nat.mul_add]
    omega
theorem dense_most (f : Nat) (es : List Ev) (h : es.length ≤ 300) (hf : f ≤ 4611686018427387904) : (sealed (denseOf f es)).length ≤ 40000 := by
  have h1 := cols_small es (by omega) 5
  have h2 := Lib.uvarint_length64 (x := f) (by omega)
  have h3 := Lib.uvarint_length64 (x := es.length) (by omega)
  have h4 := beginOf_length (mark := denseMark) rfl f
  unfold sealed denseOf
  rw [List.length_append, List.length_append, List.length_append, sumBytes_length]
  omega
theorem denseOf_inj {a b : Nat} {l m : List Ev} (ha : a ≤ 4611686018427387904) (hb : b ≤ 4611686018427387904) (h : denseOf a l = denseOf b m) : a = b := by
  unfold denseOf beginOf at h
  rw [List.append_assoc, List.append_assoc] at h
  exact (uvarint_front (by omega) (by omega) (List.append_cancel_left h)).1
end Go.Proofs.Ytiockkphciadeaa

/-
  Events in frames of so many, behind a head.
-/
set_option linter.unusedVariables false
set_option linter.unusedSimpArgs false
namespace Go.Proofs.Ytiockkphciadeaa
open Go.RowKit
open Go.Lib (byteCells byteCells_length byteCells_append uvarint)

def chunk (k : Nat) (es : List Ev) (j : Nat) : List Ev := (es.drop (j * k)).take k
def chunks (k : Nat) (es : List Ev) (j : Nat) : List (List Ev) := (List.range j).map (chunk k es)
theorem chunks_succ (k : Nat) (es : List Ev) (j : Nat) : chunks k es (j + 1) = chunks k es j ++ [chunk k es j] := by
  unfold chunks
  rw [List.range_succ, List.map_append]
  rfl
theorem chunks_flat (k : Nat) (es : List Ev) : ∀ j, (chunks k es j).flatten = es.take (j * k)
  | 0 => by simp [chunks]
  | j + 1 => by
    rw [chunks_succ, List.flatten_append, chunks_flat k es j, Nat.add_mul, Nat.one_mul, List.take_add]
    simp [chunk]
theorem chunk_evs {k : Nat} {es : List Ev} {j : Nat} (hk : 1 ≤ k) (hk9 : k ≤ 100) (hj : j * k < es.length) (hok : ∀ e ∈ es, e.ok) : Evs (chunk k es j) := by
  refine ⟨?_, ?_, fun x hx => hok x (List.mem_of_mem_drop (List.mem_of_mem_take hx))⟩
  · unfold chunk; rw [List.length_take, List.length_drop]; omega
  · unfold chunk; rw [List.length_take]; omega
theorem chunks_evs {k : Nat} {es : List Ev} {j : Nat} (hk : 1 ≤ k) (hk9 : k ≤ 100) (hj : (j - 1) * k < es.length ∨ j = 0) (hok : ∀ e ∈ es, e.ok) : ∀ f ∈ chunks k es j, Evs f := by
  intro f hf
  obtain ⟨i, hi, rfl⟩ := List.mem_map.1 hf
  have hij := List.mem_range.1 hi
  refine chunk_evs hk hk9 ?_ hok
  rcases hj with h | h
  · exact Nat.lt_of_le_of_lt (Nat.mul_le_mul_right k (by omega)) h
  · omega
def segOf (first k : Nat) (es : List Ev) (j : Nat) : List UInt8 := headOf first ++ framesOf (chunks k es j)
theorem segOf_succ (first k : Nat) (es : List Ev) (j : Nat) : segOf first k es (j + 1) = segOf first k es j ++ frameOf (chunk k es j) := by
  unfold segOf
  rw [chunks_succ]
  unfold framesOf
  rw [List.flatMap_append, List.append_assoc]
  simp
theorem frame_most {f : List Ev} (h : f.length ≤ 100) : (frameOf f).length ≤ 5000 := by
  have h1 := encEvs_most f Ev.zero
  have h2 := Lib.uvarint_length64 (x := f.length) (by omega)
  have h3 : (bodyOf f).length ≤ 4200 := by unfold bodyOf; rw [List.length_append]; omega
  have h4 := Lib.uvarint_length64 (x := (bodyOf f).length) (by omega)
  rw [frameOf_length]
  omega
theorem segOf_most {first k : Nat} {es : List Ev} (hf : first ≤ 4611686018427387904) (hk : k ≤ 100) : ∀ j, (segOf first k es j).length ≤ 18 + 5000 * j
  | 0 => by
    have := headOf_most (first := first) (by omega)
    show (headOf first ++ []).length ≤ _
    rw [List.append_nil]
    omega
  | j + 1 => by
    have h1 := segOf_most (first := first) (k := k) (es := es) hf hk j
    have h2 := frame_most (f := chunk k es j) (by unfold chunk; rw [List.length_take]; omega)
    rw [segOf_succ, List.length_append]
    omega
theorem scan_seg {first k : Nat} {es : List Ev} {j : Nat} {r : List UInt8} (hf : first ≤ 4611686018427387904) (hk : 1 ≤ k) (hk9 : k ≤ 100) (hj : (j - 1) * k < es.length ∨ j = 0) (hok : ∀ e ∈ es, e.ok)
    (hr : (rdFrame (segOf first k es j ++ r) (segOf first k es j).length).2.2 ≠ 0) : scanOf (segOf first k es j ++ r) = (first, es.take (j * k), (segOf first k es j).length, 0) := by
  have hl : (segOf first k es j).length = (headOf first).length + (framesOf (chunks k es j)).length := by unfold segOf; rw [List.length_append]
  have h := scanOf_seg (l := segOf first k es j ++ r) (r := r) (first := first) (fs := chunks k es j) hf (chunks_evs hk hk9 hj hok) (by unfold segOf; rw [List.append_assoc]) (by rw [← hl]; exact hr)
  rw [h, chunks_flat, hl]
theorem rd_nought {l r : List UInt8} {k : Nat} (h : l.drop k = 0 :: r) : (rdFrame l k).2.2 ≠ 0 := by
  intro h0
  obtain ⟨he, s, hd, hn⟩ := rdFrame_sound h0
  generalize (rdFrame l k).1 = f at he hd
  rw [h] at hd
  unfold frameOf at hd
  rw [List.append_assoc] at hd
  have h1 : uvarint 0 ++ r = uvarint (bodyOf f).length ++ (sealed (bodyOf f) ++ s) := by rw [uv0]; exact hd
  have hm := bodyOf_most he.most
  have h2 := (uvarint_front (by decide) (by omega) h1).1
  have h3 : 1 ≤ (bodyOf f).length := by
    unfold bodyOf
    have := Lib.uvarint_pos f.length
    rw [List.length_append]
    omega
  omega

theorem run_cutE (w : World) (A : Option Addr) (n c i j : Nat) (hij : i ≤ j) (hj : j ≤ c) :
    (Instr.slice 60 (.slice A n c) (some (.int .i64 (i : Int))) (some (.int .i64 (j : Int))) none).run Try.prog w = .ok (.slice (if c = i then A else A.map (·.add (i * 5))) (j - i) (c - i)) w := by
  obtain ⟨i0, hi, hz0, hz1, hz2⟩ := info_parts infoEv
  have ht : Try.prog.underlying 60 = some (.slice (Try.prog.elem 60)) := by simp [Program.elem, Try.underlying60]
  have he : Try.prog.elem 60 = 54 := by simp [Program.elem, Try.underlying60]
  rw [run_slice_lh w 60 A n c ht .i64 .i64 (i : Int) (j : Int) (by omega) (by omega) (by omega), he]
  simp [sizeOf, typeInfo, hi, hz1, Result.andThen, sliced]
theorem IsEv.cut {w : World} {A : Option Addr} {n c : Nat} {l : List Ev} (h : IsEv w A n c l) {i m : Nat} (hi : i + m ≤ n) :
    IsEv w (if c = i then A else A.map (·.add (i * 5))) m (c - i) ((l.drop i).take m) := by
  obtain ⟨hl, hc, hnone, hsrc⟩ := h
  refine ⟨by rw [List.length_take, List.length_drop]; omega, by omega, fun e => ?_, ?_⟩
  · by_cases hci : c = i
    · omega
    · rw [if_neg hci] at e
      cases A with
      | none => have := hnone rfl; omega
      | some a => simp at e
  · rcases Nat.eq_zero_or_pos m with h0 | h0
    · subst h0; exact .inl (by simp)
    · rw [if_neg (by omega)]
      rcases hsrc with rfl | ⟨b, o, rfl, hcell⟩
      · simp at hl; omega
      · refine .inr ⟨b, o + i * 5, by simp [Addr.add_lit], fun j u hj f v hv => ?_⟩
        have hj' : l[i + j]? = some u := by
          have hjm : j < m := by
            have h1 := (List.getElem?_eq_some_iff.1 hj).1
            rw [List.length_take] at h1
            omega
          rw [List.getElem?_take_of_lt hjm, List.getElem?_drop] at hj
          exact hj
        have := hcell (i + j) u hj' f v hv
        rwa [Nat.add_mul, ← Nat.add_assoc] at this

theorem chunk_cut {k j I J n : Nat} {es : List Ev} (hI : I = j * k) (hJ : J = min (I + k) n) (hl : es.length = n) : (es.drop I).take (J - I) = chunk k es j := by
  unfold chunk
  rw [← hI]
  by_cases h : I + k ≤ n
  · have e : J - I = k := by omega
    rw [e]
  · have e1 : (es.drop I).length ≤ J - I := by rw [List.length_drop]; omega
    have e2 : (es.drop I).length ≤ k := by rw [List.length_drop]; omega
    rw [List.take_of_length_le e1, List.take_of_length_le e2]
theorem chunk_len (k : Nat) (es : List Ev) (j : Nat) : (chunk k es j).length ≤ k := by unfold chunk; rw [List.length_take]; omega
theorem chunk_count {j k I n N : Nat} (hk : 1 ≤ k) (hI : I = j * k) (hi : I < n) (hn : n ≤ N) : j + 1 ≤ N := by
  have h1 : j * 1 ≤ j * k := Nat.mul_le_mul_left j hk
  rw [← hI] at h1
  omega
theorem wrap_two (a b : Nat) (h : a + b ≤ 100000000) : wrap64 ((a : Int) + (b : Int)) = (a : Int) + (b : Int) := by unfold wrap64; omega
theorem min_two (a b n J : Nat) (h : J = min (a + b) n) : min ((a : Int) + (b : Int)) (n : Int) = (J : Int) := by rw [h]; omega
end Go.Proofs.Ytiockkphciadeaa

/-
  A segment that is cut anywhere behind its head: plain facts.
-/
set_option linter.unusedVariables false
set_option linter.unusedSimpArgs false
namespace Go.Proofs.Ytiockkphciadeaa
open Go.RowKit
open Go.Lib (uvarint)

theorem segOf_more (first k : Nat) (es : List Ev) (W : Nat) : ∀ d, ∃ r, segOf first k es (W + d) = segOf first k es W ++ r
  | 0 => ⟨[], by rw [List.append_nil, Nat.add_zero]⟩
  | d + 1 => by
    obtain ⟨r, h⟩ := segOf_more first k es W d
    refine ⟨r ++ frameOf (chunk k es (W + d)), ?_⟩
    rw [← Nat.add_assoc, segOf_succ, h, List.append_assoc]
theorem seg_cut {first k J K W : Nat} {es : List Ev} (hf : first ≤ 4611686018427387904) (hk : 1 ≤ k) (hk9 : k ≤ 100) (hok : ∀ e ∈ es, e.ok) (hJ : (J - 1) * k < es.length ∨ J = 0) (hW : W ≤ J)
    (h1 : (segOf first k es W).length ≤ K) (h2 : W < J → K < (segOf first k es (W + 1)).length) (hK : K ≤ (segOf first k es J).length) :
    scanOf ((segOf first k es J).take K) = (first, es.take (W * k), (segOf first k es W).length, 0) := by
  have hjW : (W - 1) * k < es.length ∨ W = 0 := by
    rcases Nat.eq_zero_or_pos W with h | h
    · exact .inr h
    · rcases hJ with h3 | h3
      · exact .inl (Nat.lt_of_le_of_lt (Nat.mul_le_mul_right k (by omega)) h3)
      · omega
  by_cases hWJ : W < J
  · obtain ⟨post, hp⟩ := segOf_more first k es (W + 1) (J - (W + 1))
    rw [show W + 1 + (J - (W + 1)) = J by omega] at hp
    have hall : segOf first k es J = segOf first k es W ++ (frameOf (chunk k es W) ++ post) := by rw [hp, segOf_succ, List.append_assoc]
    have hd : (segOf first k es J).drop (segOf first k es W).length = frameOf (chunk k es W) ++ post := by rw [hall, List.drop_left]
    have hWk : W * k < es.length := by
      rcases hJ with h3 | h3
      · exact Nat.lt_of_le_of_lt (Nat.mul_le_mul_right k (by omega)) h3
      · omega
    have hev := chunk_evs (j := W) hk hk9 hWk hok
    have hc := row_cut hd hev hK h1
    have hl := segOf_succ first k es W
    have hl2 := congrArg List.length hl
    rw [List.length_append] at hl2
    have hno : (rdFrame ((segOf first k es J).take K) (segOf first k es W).length).2.2 ≠ 0 := fun e => by
      have h3 := hc.1 e
      have h4 := h2 hWJ
      omega
    have ht : (segOf first k es J).take K = segOf first k es W ++ (frameOf (chunk k es W) ++ post).take (K - (segOf first k es W).length) := by
      rw [hall, List.take_append, List.take_of_length_le h1]
    rw [ht] at hno ⊢
    exact scan_seg hf hk hk9 hjW hok hno
  · obtain rfl : W = J := by omega
    have hKe : K = (segOf first k es W).length := by omega
    rw [List.take_of_length_le (by omega)]
    have h := scan_seg (r := []) hf hk hk9 hjW hok (by rw [List.append_nil]; exact rd_end (Nat.le_refl _))
    rwa [List.append_nil] at h
end Go.Proofs.Ytiockkphciadeaa

/-
  SegmentNumbers: plain facts.
-/
set_option linter.unusedVariables false
set_option linter.unusedSimpArgs false
namespace Go.Proofs.Ytiockkphciadeaa
open Go.RowKit
open Go.Lib (byteCells byteCells_length byteCells_append uvarint)

/- ## Events that make gives (as in EvMade, laid here so that the claim's merged texts stay as they are) -/
theorem flat_size : ∀ es : List Ev, (es.flatMap Ev.cells).length = es.length * 5
  | [] => rfl
  | x :: es => by
    have h := flat_size es
    show (x.cells ++ es.flatMap Ev.cells).length = (es.length + 1) * 5
    rw [List.length_append, h]
    show 5 + _ = _
    omega
theorem zerosE (N : Nat) : madeCells (#[.int .i64 0, .int .u8 0, .int .i64 0, .int .i64 0, .int .i64 0] : Array Value) (N * 5) = ((List.replicate N Ev.zero).flatMap Ev.cells).toArray := by
  apply Array.ext
  · rw [size_madeCells, List.size_toArray, flat_size, List.length_replicate]
  · intro i h1 h2
    rw [size_madeCells] at h1
    have h3 := flatEv (List.replicate N Ev.zero) (i / 5) Ev.zero (by rw [List.getElem?_replicate, if_pos (by omega)]) (i % 5) (by omega)
    rw [show i / 5 * 5 + i % 5 = i by omega] at h3
    have h5 : i % 5 = 0 ∨ i % 5 = 1 ∨ i % 5 = 2 ∨ i % 5 = 3 ∨ i % 5 = 4 := by omega
    have h4 : (madeCells (#[.int .i64 0, .int .u8 0, .int .i64 0, .int .i64 0, .int .i64 0] : Array Value) (N * 5))[i]? = Ev.zero.cells[i % 5]? := by
      unfold madeCells
      rw [Array.getElem?_map, Array.getElem?_range, if_pos h1]
      show some ((#[.int .i64 0, .int .u8 0, .int .i64 0, .int .i64 0, .int .i64 0] : Array Value)[i % 5]!) = _
      rcases h5 with h | h | h | h | h <;> rw [h] <;> rfl
    rw [← h3] at h4
    rw [Array.getElem?_eq_getElem (by rw [size_madeCells]; exact h1), List.getElem?_eq_getElem (by simpa using h2)] at h4
    exact Option.some.inj h4
theorem run_zerosE (w : World) (kl kc : IntKind) (N : Nat) (hN : N ≤ 1048577) :
    (Instr.makeSlice 60 (.int kl (N : Int)) (.int kc (N : Int))).run Try.prog w = .ok (.slice (some ⟨w.heap.size, 0, none⟩) N N) (w.alloc (.cells ((List.replicate N Ev.zero).flatMap Ev.cells).toArray 54)) := by
  obtain ⟨i0, h2, h3, h4, h5⟩ := info_parts infoEv
  have hr := run_make (P := Try.prog) w 60 54 i0 (.agg #[.int .i64 0, .int .u8 0, .int .i64 0, .int .i64 0, .int .i64 0]) Try.underlying60 h2 h3 kl kc N N (by omega) (Int.le_refl _) (by rw [h5]; omega) (by omega)
  rw [h4] at hr
  have e1 : (Value.agg #[.int .i64 0, .int .u8 0, .int .i64 0, .int .i64 0, .int .i64 0]).cells = #[.int .i64 0, .int .u8 0, .int .i64 0, .int .i64 0, .int .i64 0] := rfl
  rw [e1, Int.toNat_natCast, zerosE] at hr
  exact hr
/-- what make gives is the call's own -/
theorem zeros_own (w : World) (N : Nat) (hN : N ≤ 1048577) : ∃ w', (∀ kl kc : IntKind, (Instr.makeSlice 60 (.int kl (N : Int)) (.int kc (N : Int))).run Try.prog w = .ok (.slice (some ⟨w.heap.size, 0, none⟩) N N) w') ∧
    OwnE w' w.heap.size (.slice (some ⟨w.heap.size, 0, none⟩) N N) (List.replicate N Ev.zero) ∧ Below w.heap.size w w' := by
  refine ⟨_, fun kl kc => run_zerosE w kl kc N hN, ?_, (Below.refl _ _).alloc (Nat.le_refl _) _⟩
  unfold OwnE
  refine ⟨flat_size _, .inr ⟨w.heap.size, N, _, ?_, Nat.le_refl _, heap_alloc_new _ _, ?_, ?_, ?_, ?_⟩⟩
  · rw [List.length_replicate]
  · rw [List.length_replicate]; exact Nat.le_refl _
  · unfold maxLen; omega
  · rw [List.size_toArray, flat_size, List.length_replicate]
  · rw [List.length_replicate]
    show List.take (N * 5) ((List.replicate N Ev.zero).flatMap Ev.cells) = _
    rw [List.take_of_length_le]
    rw [flat_size, List.length_replicate]
    exact Nat.le_refl _
/- ## The examples -/
def f62 : Nat := 4611686018427387904
theorem uv62 : uvarint 4611686018427387904 = [128, 128, 128, 128, 128, 128, 128, 128, 64] := by
  rw [Lib.uvarint_big (by decide), Lib.uvarint_big (by decide), Lib.uvarint_big (by decide), Lib.uvarint_big (by decide), Lib.uvarint_big (by decide), Lib.uvarint_big (by decide), Lib.uvarint_big (by decide), Lib.uvarint_big (by decide), Lib.uvarint_small (by decide)]
  rfl
def head62 : List UInt8 := [65, 77, 83, 49, 128, 128, 128, 128, 128, 128, 128, 128, 64, 244, 211, 85, 220]
theorem head62_is : headOf 4611686018427387904 = head62 := by
  unfold headOf beginOf
  rw [uv62]
  kernel_rfl
theorem cut62 : ∀ n, n < 17 → scanOf (head62.take n) = (0, [], 0, 11)
  | 0, _ => by kernel_rfl
  | 1, _ => by kernel_rfl
  | 2, _ => by kernel_rfl
  | 3, _ => by kernel_rfl
  | 4, _ => by kernel_rfl
  | 5, _ => by kernel_rfl
  | 6, _ => by kernel_rfl
  | 7, _ => by kernel_rfl
  | 8, _ => by kernel_rfl
  | 9, _ => by kernel_rfl
  | 10, _ => by kernel_rfl
  | 11, _ => by kernel_rfl
  | 12, _ => by kernel_rfl
  | 13, _ => by kernel_rfl
  | 14, _ => by kernel_rfl
  | 15, _ => by kernel_rfl
  | 16, _ => by kernel_rfl
  | n + 17, h => absurd h (by omega)
theorem turned62 : scanOf (head62.set 16 221) = (0, [], 0, 12) := by kernel_rfl
theorem uv63 : uvarint 4611686018427387905 = [129, 128, 128, 128, 128, 128, 128, 128, 64] := by
  rw [Lib.uvarint_big (by decide), Lib.uvarint_big (by decide), Lib.uvarint_big (by decide), Lib.uvarint_big (by decide), Lib.uvarint_big (by decide), Lib.uvarint_big (by decide), Lib.uvarint_big (by decide), Lib.uvarint_big (by decide), Lib.uvarint_small (by decide)]
  rfl
theorem great62 : scanOf (sealed ([65, 77, 83, 49] ++ uvarint 4611686018427387905)) = (0, [], 0, 10) := by rw [uv63]; kernel_rfl
def e1 : Ev := ⟨1, 0, 0, 0, 0⟩
def e2 : Ev := ⟨2, 0, 0, 0, 0⟩
def e3 : Ev := ⟨3, 0, 0, -7, 0⟩
theorem e1_ok : e1.ok := by constructor <;> (try unfold In64) <;> decide
theorem e2_ok : e2.ok := by constructor <;> (try unfold In64) <;> decide
theorem e3_ok : e3.ok := by constructor <;> (try unfold In64) <;> decide
theorem es3_ok : ∀ e ∈ [e1, e2, e3], e.ok := fun e he => by
  simp only [List.mem_cons, List.not_mem_nil, or_false] at he
  rcases he with rfl | rfl | rfl
  · exact e1_ok
  · exact e2_ok
  · exact e3_ok
theorem seg0 : segOf 4611686018427387904 2 [e1, e2, e3] 0 = head62 := by
  show headOf _ ++ [] = _
  rw [List.append_nil, head62_is]
theorem seg1 : segOf 4611686018427387904 2 [e1, e2, e3] 1 = head62 ++ frameOf [e1, e2] := by rw [segOf_succ, seg0]; rfl
theorem seg2 : segOf 4611686018427387904 2 [e1, e2, e3] 2 = (head62 ++ frameOf [e1, e2]) ++ frameOf [e3] := by rw [segOf_succ, seg1]; rfl
theorem all62 : scanOf ((head62 ++ frameOf [e1, e2]) ++ frameOf [e3]) = (4611686018427387904, [e1, e2, e3], ((head62 ++ frameOf [e1, e2]) ++ frameOf [e3]).length, 0) := by
  have h1 := scan_seg (first := 4611686018427387904) (k := 2) (es := [e1, e2, e3]) (j := 2) (r := []) (by decide) (by decide) (by decide) (.inl (by decide)) es3_ok (by rw [List.append_nil]; exact rd_end (Nat.le_refl _))
  rw [List.append_nil, seg2] at h1
  exact h1
theorem cut62a {n a b : Nat} (ha : (frameOf [e1, e2]).length = a) (hb : (frameOf [e3]).length = b) (h1 : 17 ≤ n) (h2 : n < 17 + a) : scanOf (((head62 ++ frameOf [e1, e2]) ++ frameOf [e3]).take n) = (4611686018427387904, [], 17, 0) := by
  have h := seg_cut (first := 4611686018427387904) (k := 2) (es := [e1, e2, e3]) (J := 2) (K := n) (W := 0) (by decide) (by decide) (by decide) es3_ok (.inl (by decide)) (by decide) (by rw [seg0]; exact h1) (fun _ => by rw [seg1, List.length_append, ha]; exact h2) (by rw [seg2, List.length_append, List.length_append, ha, hb]; show n ≤ 17 + a + b; omega)
  rw [seg2, seg0] at h
  exact h
theorem cut62b {n a b : Nat} (ha : (frameOf [e1, e2]).length = a) (hb : (frameOf [e3]).length = b) (h1 : 17 + a ≤ n) (h2 : n < 17 + a + b) : scanOf (((head62 ++ frameOf [e1, e2]) ++ frameOf [e3]).take n) = (4611686018427387904, [e1, e2], 17 + a, 0) := by
  have h := seg_cut (first := 4611686018427387904) (k := 2) (es := [e1, e2, e3]) (J := 2) (K := n) (W := 1) (by decide) (by decide) (by decide) es3_ok (.inl (by decide)) (by decide) (by rw [seg1, List.length_append, ha]; exact h1) (fun _ => by rw [seg2, List.length_append, List.length_append, ha, hb]; exact h2) (by rw [seg2, List.length_append, List.length_append, ha, hb]; show n ≤ 17 + a + b; omega)
  rw [seg2, seg1, List.length_append, ha] at h
  exact h
theorem cut62n {n : Nat} {r : List UInt8} (h : n < 17) : scanOf ((head62 ++ r).take n) = (0, [], 0, 11) := by
  rw [List.take_append_of_le_length (by show n ≤ 17; omega)]
  exact cut62 n h
theorem sw0 : scanOf [65, 78] = (0, [], 0, 10) := by kernel_rfl
theorem sw1 : scanOf [66] = (0, [], 0, 10) := by kernel_rfl
theorem sw2 : scanOf [] = (0, [], 0, 11) := by kernel_rfl
theorem sw3 : scanOf [65, 77, 83] = (0, [], 0, 11) := by kernel_rfl
theorem sw4 : scanOf [65, 77, 83, 49, 128, 0] = (0, [], 0, 10) := by kernel_rfl
theorem sw5 : scanOf [65, 77, 68, 49, 0] = (0, [], 0, 10) := by kernel_rfl
theorem up0 : unpackOf [1, 2, 3] = (0, [], 11) := by kernel_rfl
theorem up1 : unpackOf [65, 77, 68, 49, 0] = (0, [], 12) := by kernel_rfl
theorem nn0 : unpackOf (sealed []) = (0, [], 10) := by kernel_rfl
theorem nn1 : unpackOf (sealed [65, 77, 83, 49, 0, 1, 0, 1, 0, 1, 0, 1, 0, 1, 0, 1]) = (0, [], 10) := by kernel_rfl
theorem nn2 : unpackOf (sealed [65, 77, 68, 49, 0, 0]) = (0, [], 10) := by kernel_rfl
theorem nn3 : unpackOf (sealed [65, 77, 68, 49, 0, 1, 0, 1, 0, 1, 0, 1, 0, 1, 0]) = (0, [], 10) := by kernel_rfl
theorem nn4 : unpackOf (sealed [65, 77, 68, 49, 0, 1, 0, 1, 0, 1, 0, 1, 0, 1, 0, 1, 0]) = (0, [], 10) := by kernel_rfl
theorem nn5 : unpackOf (sealed [65, 77, 68, 49, 0, 1, 0, 2, 0, 1, 0, 1, 0, 1, 0, 1]) = (0, [], 10) := by kernel_rfl
theorem nn6 : unpackOf (sealed [65, 77, 68, 49, 0, 1, 0, 0, 0, 1, 0, 1, 0, 1, 0, 1]) = (0, [], 10) := by kernel_rfl
theorem nn7 : unpackOf (sealed [65, 77, 68, 49, 0, 2, 0, 1, 0, 1, 0, 2, 0, 2, 0, 2, 0, 2]) = (0, [], 10) := by kernel_rfl
theorem nn8 : unpackOf (sealed [65, 77, 68, 49, 0, 1, 0, 1, 1, 1, 0, 1, 0, 1, 0, 1]) = (0, [], 10) := by kernel_rfl
theorem nn9 : unpackOf (sealed [65, 77, 68, 49, 0, 129, 128, 64]) = (0, [], 10) := by kernel_rfl
theorem dif00 : dif 0 0 = 0 := by unfold dif wrap64; omega
theorem diffs_zero : ∀ n, diffs 0 (List.replicate n 0) = List.replicate n 0
  | 0 => rfl
  | n + 1 => by
    show dif 0 0 :: diffs 0 (List.replicate n 0) = 0 :: List.replicate n 0
    rw [dif00, diffs_zero n]
theorem nums_zero (n : Nat) (hn : n < 1048576) : (numsBytes (List.replicate (n + 1) 0)).length ≤ 20 := by
  have h := runsOf_many 0 [] [] rfl trivial n
  rw [List.append_nil] at h
  have h2 := Lib.uvarint_length64 (x := n + 1) (by omega)
  unfold numsBytes
  rw [diffs_zero, h, encRuns_cons, List.length_append, List.length_append, svar_zero]
  show 1 + ((uvarint (n + 1)).length + 0) ≤ 20
  omega
theorem dense_zero (N : Nat) (h1 : 1 ≤ N) (hN : N ≤ 1048576) : (sealed (denseOf 4611686018427387904 (List.replicate N Ev.zero))).length ≤ 1000 := by
  obtain ⟨n, rfl⟩ : ∃ n, N = n + 1 := ⟨N - 1, by omega⟩
  have hc : ∀ c, (List.replicate (n + 1) Ev.zero).map (colGet c) = List.replicate (n + 1) 0 := fun c => by
    rw [List.map_replicate]
    congr 1
    unfold colGet
    split <;> rfl
  have hn := nums_zero n (by omega)
  have hk : ∀ k, (colsTo (List.replicate (n + 1) Ev.zero) k).length ≤ 20 * k := fun k => by
    induction k with
    | zero => exact Nat.le_refl _
    | succ k ih =>
      show (colsTo (List.replicate (n + 1) Ev.zero) k ++ numsBytes ((List.replicate (n + 1) Ev.zero).map (colGet k))).length ≤ _
      rw [List.length_append, hc]
      omega
  have h5 := hk 5
  have h6 := beginOf_length (mark := denseMark) rfl 4611686018427387904
  have h7 := Lib.uvarint_length64 (x := 4611686018427387904) (by decide)
  have h8 := Lib.uvarint_length64 (x := (List.replicate (n + 1) Ev.zero).length) (by rw [List.length_replicate]; omega)
  unfold sealed
  rw [List.length_append, sumBytes_length]
  unfold denseOf
  rw [List.length_append, List.length_append]
  omega

/- ## Bytes that CopyBytes gives, and that are written over -/
def MF (w : World) (g c : Nat) (l : List UInt8) : Prop :=
  ∃ (cur : Array Value) (fr : Nat × Nat), w.heap[g]? = some (.cells cur 5 fr) ∧ cur.size = c ∧ l.length ≤ c ∧ c ≤ fr.1 ∧ ∀ (j : Nat) (u : UInt8), l[j]? = some u → cur[j]? = some (Value.int .u8 (u.toNat : Int))
theorem MF.cell {w : World} {g c : Nat} {l : List UInt8} (h : MF w g c l) {k : Nat} {u : UInt8} (hk : l[k]? = some u) : w.cell? ⟨g, k, none⟩ = some (.int .u8 (u.toNat : Int)) := by
  obtain ⟨cur, fr, hg, _, _, _, hat⟩ := h
  rw [cell_of_row w g k cur _ fr hg]
  exact hat k u hk
theorem MF.free {w : World} {g c : Nat} {l : List UInt8} (h : MF w g c l) {k : Nat} (hk : k < c) : w.frozen? ⟨g, k, none⟩ = false := by
  obtain ⟨cur, fr, hg, _, _, hfr, _⟩ := h
  simp only [World.frozen?, hg, Bool.and_eq_false_iff, decide_eq_false_iff_not]
  left; omega
theorem MF.is_ {w : World} {g c : Nat} {l : List UInt8} (h : MF w g c l) {n : Nat} (hn : l.length = n) : IsB w (some ⟨g, 0, none⟩) n c l := by
  refine ⟨hn, ?_, (fun h => by cases h), .inr ⟨g, 0, rfl, fun j u hj => by rw [Nat.zero_add]; exact h.cell hj⟩⟩
  obtain ⟨_, _, _, _, hc, _⟩ := h
  omega
theorem MF.put {w : World} {g c : Nat} {l : List UInt8} (h : MF w g c l) (k : Nat) (u : UInt8) (q : Int) (hq : (u.toNat : Int) = q) : MF (w.setCell ⟨g, k, none⟩ (.int .u8 q)) g c (l.set k u) := by
  subst hq
  obtain ⟨cur, fr, hg, hs, hc, hfr, hat⟩ := h
  refine ⟨cur.setIfInBounds k (.int .u8 (u.toNat : Int)), fr, ?_, by rw [Array.size_setIfInBounds, hs], by rw [List.length_set]; exact hc, hfr, fun j v hj => ?_⟩
  · simp [World.setCell, Array.getElem?_modify, hg]
  · by_cases hjk : j = k
    · subst hjk
      have hjl : j < l.length := by
        have := (List.getElem?_eq_some_iff.1 hj).1
        rwa [List.length_set] at this
      rw [List.getElem?_set_self hjl] at hj
      injection hj with hj
      subst hj
      rw [Array.getElem?_setIfInBounds, if_pos rfl, if_pos (by omega)]
    · rw [List.getElem?_set_ne (fun e => hjk e.symm)] at hj
      rw [Array.getElem?_setIfInBounds, if_neg (fun e => hjk e.symm)]
      exact hat j v hj
set_option maxRecDepth 100000 in
theorem copybytes_mine {w : World} {A : Option Addr} {n c : Nat} {l : List UInt8} (h : IsB w A n c l) (hn : n ≤ 1000000) :
    Calls Try.prog 26 #[.slice A n c] w fun e w' => ∃ c', e = .returned (.slice (some ⟨w.heap.size, 0, none⟩) n c') ∧ MF w' w.heap.size c' l ∧ Below w.heap.size w w' := by
  obtain ⟨s, hs⟩ : ∃ s : ByteArray, s = ⟨l.toArray⟩ := ⟨_, rfl⟩
  have f1 := conv_str w h hs
  have hl := h.len
  have hss : s.size = n := by rw [hs]; simpa [ByteArray.size] using h.len
  have f2 := Lib.run_convert_string_bytes (P := Try.prog) w 9 26 5 s Try.underlying9 Try.underlying26 Try.underlying5
  have hnew := Lib.bytesWorld_at_new w 5 s
  have hB : Below w.heap.size w (Lib.bytesWorld w 5 s) := ⟨rfl, rfl, rfl, by rw [Lib.bytesWorld_size]; omega, fun b hb => Lib.bytesWorld_at_old w _ s b hb⟩
  have hsz := Lib.bytesWorld_size w 5 s
  have hcg := grownCap_ge w s.size 0 5
  have hcs : (Lib.bytesCells w 5 s).size = grownCap w s.size 0 5 := by
    have : s.data.size = s.size := rfl
    simp [Lib.bytesCells, this]; omega
  have hcell := Lib.bytesWorld_cell w 5 s
  rw [hss] at f2 hcg hcs hcell
  generalize hW : Lib.bytesWorld w 5 s = W at f2 hnew hB hsz hcell
  generalize Lib.bytesCells w 5 s = cs at hnew hcs
  generalize grownCap w n 0 5 = c' at f2 hcg hcs
  have hSp : MF W w.heap.size c' l := by
    refine ⟨cs, _, hnew, hcs, by omega, by show c' ≤ cs.size; omega, fun j u hj => ?_⟩
    have hj' := (List.getElem?_eq_some_iff.1 hj).1
    have h2 := hcell j (by omega)
    rw [cell_of_row _ _ _ _ _ _ hnew] at h2
    rw [h2, hs]
    all_goals simp [List.getD, hj]
  have HSp := Lib.hid hSp
  have HB := Lib.hid hB
  clear h hs hW hnew hB hsz hcell hcs hcg hSp
  go_enter Try.func26, Try.ntmps26
  go_wp2_with fail
  go_ret
  exact ⟨_, rfl, HSp.out, HB.out⟩
end Go.Proofs.Ytiockkphciadeaa

/-
  SegmentNumbers: its own small calls.
-/
set_option linter.unusedVariables false
set_option linter.unusedSimpArgs false
namespace Go.Proofs.Ytiockkphciadeaa
open Go.RowKit
open Go.Lib (byteCells byteCells_length byteCells_append uvarint)

theorem eq_int (x : Int) : (x != x) = false := by simp
theorem evs_lit (w : World) (es : List Ev) (cs : Array Value) (t : TypeId) (fr : Nat × Nat) (n : Nat) (h : cs = (es.flatMap Ev.cells).toArray) (hn : es.length = n) : IsEv (w.alloc (.cells cs t fr)) (some ⟨w.heap.size, 0, none⟩) n n es := by
  subst h; subst hn
  refine ⟨rfl, Nat.le_refl _, (fun e => by cases e), .inr ⟨_, 0, rfl, fun j x hj f u hu => ?_⟩⟩
  have hf : f < 5 := (List.getElem?_eq_some_iff.1 hu).1
  rw [cell_of_row _ _ _ _ _ _ (heap_alloc_new w _), ← hu, ← flatEv es j x hj f hf, Nat.zero_add]
  simp
set_option maxRecDepth 100000 in
set_option maxHeartbeats 2000000 in
theorem wrong4 {w : World} {A : Option Addr} {n c : Nat} {l : List UInt8} (x : Nat) (h : IsB w A n c l) (hn : n ≤ 1000000) (hs : scanOf l = (0, [], 0, x)) :
    Calls Try.prog 41 #[.int .i64 (x : Int), .slice A n c] w fun e w' => e = .returned (.bool true) ∧ Below w.heap.size w w' := by
  have HS := Lib.hid (Scan_any A n c l w h hn)
  have q1 : ((x : Int) == (x : Int)) = true := by simp
  clear h
  rw [hs] at HS
  go_enter Try.func41, Try.ntmps41
  go_wp2_with fail
  refine HS.out.mono ?_
  rintro e w1 ⟨⟨v, rfl, hO⟩, hb1⟩
  obtain ⟨B, b, d, rfl, hI, hbl, -⟩ := hO.is_
  obtain rfl : b = 0 := hbl
  have HB1 := Lib.hid hb1
  clear hO hI hb1 HS hs
  go_wp2_with fail
  go_ret
  exact ⟨rfl, HB1.out⟩
set_option maxRecDepth 100000 in
set_option maxHeartbeats 2000000 in
theorem none4 {w : World} {A : Option Addr} {n c : Nat} {l : List UInt8} (h : IsB w A n c l) (hn : n ≤ 1000) (hs : unpackOf (sealed l) = (0, [], 10)) :
    Calls Try.prog 44 #[.slice A n c] w fun e w' => e = .returned (.bool true) ∧ Below w.heap.size w w' := by
  have hl := h.len
  have HS := Lib.hid (refSeal_any A n c l w h (by omega))
  clear h
  go_enter Try.func44, Try.ntmps44
  go_wp2_with fail
  refine HS.out.mono ?_
  rintro e w1 ⟨B1, m1, d1, rfl, hI1, hb1⟩
  have hm1 := hI1.len
  have hsl : (sealed l).length = l.length + 4 := by unfold sealed; rw [List.length_append, sumBytes_length]
  have hU := Unpack_any B1 m1 d1 _ w1 hI1 (by omega)
  rw [hs] at hU
  have HU := Lib.hid hU
  have HB1 := Lib.hid hb1
  clear hI1 hb1 HS hU hm1 hsl hs
  go_wp2_with fail
  refine HU.out.mono ?_
  rintro e w2 ⟨⟨v, rfl, hO⟩, hb2⟩
  obtain ⟨B, b, d, rfl, hI, hbl, -⟩ := hO.is_
  obtain rfl : b = 0 := hbl
  have HB2 := Lib.hid (HB1.out.trans (hb2.mono HB1.out.size))
  clear hO hI hb2 HU
  go_wp2_with fail
  go_ret
  exact ⟨rfl, HB2.out⟩
set_option maxRecDepth 100000 in
set_option maxHeartbeats 4000000 in
theorem sgnum_walk (w : World) : Calls Try.prog 6 #[] w fun e w' => e = .returned (.bool true) ∧ Below w.heap.size w w' := by
  have HH := Lib.hid (Head_is 4611686018427387904 w (by decide))
  rw [head62_is] at HH
  go_enter Try.func6, Try.ntmps6
  go_wp2_with fail
  refine HH.out.mono ?_
  rintro e w1 ⟨Ah, mh, ch, rfl, hIh, hb1⟩
  obtain rfl : 17 = mh := hIh.len
  have HI1 := Lib.hid hIh
  have HB1 := Lib.hid hb1
  clear hIh hb1 HH
  go_wp2_with fail
  refine (Head_no (-1) w1 (.inl (by decide))).mono ?_
  rintro e w' ⟨rfl, rfl⟩
  go_wp2_with fail
  have hb2 : Below w1.heap.size w1 (w1.alloc (.cells #[.int .i64 1, .int .u8 0, .int .i64 0, .int .i64 0, .int .i64 0, .int .i64 2, .int .u8 0, .int .i64 0, .int .i64 0, .int .i64 0] 54)) := (Below.refl _ _).alloc (Nat.le_refl _) _
  have hE1 : IsEv (w1.alloc (.cells #[.int .i64 1, .int .u8 0, .int .i64 0, .int .i64 0, .int .i64 0, .int .i64 2, .int .u8 0, .int .i64 0, .int .i64 0, .int .i64 0] 54)) (some ⟨w1.heap.size, 0, none⟩) 2 2 [e1, e2] := evs_lit w1 [e1, e2] _ _ _ 2 rfl rfl
  have HB2 := Lib.hid (HB1.out.trans (hb2.mono HB1.out.size))
  have HI2 := Lib.hid (HI1.out.below hb2)
  refine (refFrame_any _ 2 2 _ _ hE1 (by decide) (by decide) (fun e he => es3_ok e (by simp only [List.mem_cons, List.not_mem_nil, or_false] at he ⊢; rcases he with h | h <;> simp [h]))).mono ?_
  rintro e w3 ⟨v, rfl, ho3, hb3⟩
  obtain ⟨A3, m3, c3, rfl, hI3⟩ := own_slice ho3
  have HB3 := Lib.hid (HB2.out.trans (hb3.mono HB2.out.size))
  have HI3 := Lib.hid (HI2.out.below hb3)
  have HJ3 := Lib.hid hI3
  have hm3 := hI3.len
  clear hb2 hE1 ho3 hb3 hI3 HB1 HB2 HI1 HI2
  go_wp2_with fail
  have hb4 : Below w3.heap.size w3 (w3.alloc (.cells #[.int .i64 3, .int .u8 0, .int .i64 0, .int .i64 (-7), .int .i64 0] 54)) := (Below.refl _ _).alloc (Nat.le_refl _) _
  have hE4 : IsEv (w3.alloc (.cells #[.int .i64 3, .int .u8 0, .int .i64 0, .int .i64 (-7), .int .i64 0] 54)) (some ⟨w3.heap.size, 0, none⟩) 1 1 [e3] := evs_lit w3 [e3] _ _ _ 1 rfl rfl
  have HB4 := Lib.hid (HB3.out.trans (hb4.mono HB3.out.size))
  have HI4 := Lib.hid (HI3.out.below hb4)
  have HJ4 := Lib.hid (HJ3.out.below hb4)
  refine (refFrame_any _ 1 1 _ _ hE4 (by decide) (by decide) (fun e he => es3_ok e (by simp only [List.mem_cons, List.not_mem_nil, or_false] at he ⊢; simp [he]))).mono ?_
  rintro e w5 ⟨v, rfl, ho5, hb5⟩
  obtain ⟨A5, m5, c5, rfl, hI5⟩ := own_slice ho5
  have HB5 := Lib.hid (HB4.out.trans (hb5.mono HB4.out.size))
  have HI5 := Lib.hid (HI4.out.below hb5)
  have HJ5 := Lib.hid (HJ4.out.below hb5)
  have HK5 := Lib.hid hI5
  have hm5 := hI5.len
  have hf3 := frame_most (f := [e1, e2]) (by decide)
  have hf5 := frame_most (f := [e3]) (by decide)
  have hm3b : m3 ≤ 5000 := by omega
  have hm5b : m5 ≤ 5000 := by omega
  have HM3 := Lib.hid hm3
  have HM5 := Lib.hid hm5
  have HC := Lib.hid (copybytes_any HI5.out (by decide))
  clear hb4 hE4 ho5 hb5 hI5 HB3 HB4 HI3 HI4 HJ3 HJ4 hm3 hm5 hf3 hf5
  go_wp2_with fail
  refine HC.out.mono ?_
  rintro e w7 ⟨C7, c7, rfl, hSp, hb7⟩
  obtain ⟨C8, c8, w8, hap8, hSp8, hb8⟩ := spare_append hSp hb7.size (HJ5.out.below hb7) (by omega)
  have hb78 := hb7.trans hb8
  obtain ⟨C9, c9, w9, hap9, hSp9, hb9⟩ := spare_append hSp8 hb78.size (HK5.out.below hb78) (by omega)
  have hb79 := hb78.trans hb9
  obtain ⟨N, hN⟩ : ∃ N, Hid (N = 17 + m3 + m5) := ⟨_, rfl⟩
  have hN9 : N ≤ 20000 := by rw [hN.out]; omega
  rw [← hN.out] at hap9 hSp9
  have hall := hSp9.is_
  have hsc := all62
  rw [hall.len] at hsc
  have HSC := Lib.hid (scanned_any (m := 3) hall (by omega) hsc rfl)
  have HALL := Lib.hid hall
  have HB9 := Lib.hid (HB5.out.trans (hb79.mono HB5.out.size))
  have HI9 := Lib.hid (HI5.out.below hb79)
  clear hSp hb7 hSp8 hb8 hSp9 hb9 hb78 hb79 hall hsc HC HB5 HI5 HJ5 HK5
  go_wp2_with (at_builtin; first
    | (refine wpList_run _ rfl (.tmp 60) (.tmp 61) 26 rfl (R := fun v' w' => .slice C8 (17 + m3) c8 = v' ∧ w8 = w') ⟨_, _, hap8, rfl, rfl⟩ ?_; rintro v' w' ⟨rfl, rfl⟩)
    | (refine wpList_run _ rfl (.tmp 62) (.tmp 63) 26 rfl (R := fun v' w' => .slice C9 N c9 = v' ∧ w9 = w') ⟨_, _, hap9, rfl, rfl⟩ ?_; rintro v' w' ⟨rfl, rfl⟩))
  refine HSC.out.mono ?_
  rintro e w10 ⟨rfl, hb10⟩
  have HB10 := Lib.hid (HB9.out.trans (hb10.mono HB9.out.size))
  have HI10 := Lib.hid (HI9.out.below hb10)
  have HA10 := Lib.hid (HALL.out.below hb10)
  clear hb10 HSC HB9 HI9 HALL hap8 hap9
  go_wp2_with fail
  go_loopw [10] (fun q wr => ∃ j : Nat, q = .int .i64 (j : Int) ∧ j ≤ N ∧ Below w10.heap.size w10 wr) (fun q _ => N - (intOf q).toNat)
  case atStart => exact ⟨0, rfl, Nat.zero_le _, Below.refl _ _⟩
  case round =>
    obtain ⟨j, rfl, hj, hBr⟩ := hrel
    by_cases hjN : j < N
    · have hd : decide ((j : Int) < (N : Int)) = true := decide_eq_true (Int.ofNat_lt.2 hjN)
      have hcN := HA10.out.cap
      have hIT := (HA10.out.below hBr).take' (n := j) (Nat.le_of_lt hjN)
      have q0 : (0 : Int) ≤ (j : Int) := Int.natCast_nonneg _
      have q1 : (j : Int) ≤ (c9 : Int) := Int.ofNat_le.2 (Nat.le_trans hj hcN)
      have hjm : j ≤ 1000000 := by omega
      by_cases h17 : j < 17
      · have HS := Lib.hid (Scan_any _ _ _ _ wr hIT hjm)
        rw [List.append_assoc, cut62n h17] at HS
        have d1 : decide ((17 : Int) + (m3 : Int) ≤ (j : Int)) = false := decide_eq_false (by omega)
        have d2 : decide ((j : Int) < 17) = true := decide_eq_true (by omega)
        clear hIT hcN
        go_wp2_with fail
        refine HS.out.mono ?_
        rintro e w2 ⟨⟨v, rfl, hO⟩, hb2⟩
        have HBq := Lib.hid (hBr.trans (hb2.mono hBr.size))
        clear hO hb2 HS
        go_wp2_with fail
        go_roundw
        case rel => exact ⟨j + 1, by go_num, by omega, HBq.out⟩
        case measure => simp [intOf]; omega
      by_cases h17b : j < 17 + m3
      · skip
        have HS := Lib.hid (Scan_any _ _ _ _ wr hIT hjm)
        rw [cut62a HM3.out HM5.out (by omega) h17b] at HS
        have d1 : decide ((17 : Int) + (m3 : Int) ≤ (j : Int)) = false := decide_eq_false (by omega)
        have d2 : decide ((j : Int) < 17) = false := decide_eq_false (by omega)
        clear hIT hcN
        go_wp2_with fail
        refine HS.out.mono ?_
        rintro e w2 ⟨⟨v, rfl, hO⟩, hb2⟩
        obtain ⟨B2, b2, d2', rfl, hI2, hbl, -⟩ := hO.is_
        obtain rfl : b2 = 0 := hbl
        have HBq := Lib.hid (hBr.trans (hb2.mono hBr.size))
        have hq := eq_int ((17 : Int) + (m3 : Int))
        clear hO hI2 hb2 HS
        go_wp2_with fail
        go_roundw
        case rel => exact ⟨j + 1, by go_num, by omega, HBq.out⟩
        case measure => simp [intOf]; omega
      · skip
        have HS := Lib.hid (Scan_any _ _ _ _ wr hIT hjm)
        rw [cut62b HM3.out HM5.out (by omega) (by have := hN.out; omega)] at HS
        have d1 : decide ((17 : Int) + (m3 : Int) ≤ (j : Int)) = true := decide_eq_true (by omega)
        have d2 : decide ((j : Int) < 17) = false := decide_eq_false (by omega)
        clear hIT hcN
        go_wp2_with fail
        refine HS.out.mono ?_
        rintro e w2 ⟨⟨v, rfl, hO⟩, hb2⟩
        obtain ⟨B2, b2, d2', rfl, hI2, hbl, -⟩ := hO.is_
        obtain rfl : b2 = 2 := hbl
        have HBq := Lib.hid (hBr.trans (hb2.mono hBr.size))
        have hq := eq_int ((17 : Int) + (m3 : Int))
        clear hO hI2 hb2 HS
        go_wp2_with fail
        go_roundw
        case rel => exact ⟨j + 1, by go_num, by omega, HBq.out⟩
        case measure => simp [intOf]; omega
    · obtain rfl : j = N := by omega
      have hd : decide ((j : Int) < (j : Int)) = false := by simp
      have HBr := Lib.hid (HB10.out.trans (hBr.mono HB10.out.size))
      have HIr := Lib.hid (HI10.out.below hBr)
      have HC := Lib.hid (copybytes_mine HIr.out (by decide))
      clear hBr HB10 HI10 HA10
      go_wp2_with fail
      refine HC.out.mono ?_
      rintro e w2 ⟨c2, rfl, hM2, hb2⟩
      have hc2 : 17 ≤ c2 := by obtain ⟨_, _, _, _, h, _⟩ := hM2; exact h
      have x16 : w2.cell? ⟨wr.heap.size, 16, none⟩ = some (.int .u8 220) := hM2.cell (k := 16) (u := 220) rfl
      have f16 := hM2.free (k := 16) (by omega)
      have hM3 : MF (w2.setCell ⟨wr.heap.size, 16, none⟩ (.int .u8 221)) wr.heap.size c2 (head62.set 16 221) := hM2.put 16 221 221 rfl
      have hB3 : Below wr.heap.size wr (w2.setCell ⟨wr.heap.size, 16, none⟩ (.int .u8 221)) := hb2.setCell (p := ⟨wr.heap.size, 16, none⟩) (Nat.le_refl _) _
      have hIt := hM3.is_ (n := 17) rfl
      generalize hW3 : w2.setCell ⟨wr.heap.size, 16, none⟩ (.int .u8 221) = w3 at hM3 hB3 hIt
      have HB3 := Lib.hid (HBr.out.trans (hB3.mono HBr.out.size))
      have HIt := Lib.hid hIt
      have ha4 : Below w3.heap.size w3 (w3.alloc (.cells #[.int .u8 65, .int .u8 77, .int .u8 83, .int .u8 49] 5)) := (Below.refl _ _).alloc (Nat.le_refl _) _
      have hi4 : IsB (w3.alloc (.cells #[.int .u8 65, .int .u8 77, .int .u8 83, .int .u8 49] 5)) (some ⟨w3.heap.size, 0, none⟩) 4 4 [65, 77, 83, 49] := new_bytes w3 [65, 77, 83, 49] _ _ _ 4 rfl rfl
      have HU := Lib.hid (refUint_any _ 4 4 4611686018427387905 _ _ hi4 (by decide) (by decide))
      have HB4 := Lib.hid (HB3.out.trans (ha4.mono HB3.out.size))
      have HI4 := Lib.hid (HIt.out.below ha4)
      clear hM2 hb2 hM3 hB3 hIt ha4 hi4 HC HIr
      go_wp2_with fail
      refine HU.out.mono ?_
      rintro e w5 ⟨B5, m5', d5, rfl, hI5, hb5⟩
      have hm5' := hI5.len
      rw [uv63] at hm5'
      obtain rfl : 13 = m5' := hm5'
      have HS := Lib.hid (refSeal_any B5 13 d5 _ w5 hI5 (by decide))
      have HB5 := Lib.hid (HB4.out.trans (hb5.mono HB4.out.size))
      have HI5 := Lib.hid (HI4.out.below hb5)
      clear hI5 hb5 HU HB4 HI4 x16 f16 hW3
      go_wp2_with fail
      refine HS.out.mono ?_
      rintro e w6 ⟨B6, m6, d6, rfl, hI6, hb6⟩
      have hsl : (sealed ([65, 77, 83, 49] ++ uvarint 4611686018427387905)).length = 17 := by unfold sealed; rw [List.length_append, sumBytes_length, uv63]; rfl
      have hm6 := hI6.len
      rw [hsl] at hm6
      obtain rfl : 17 = m6 := hm6
      have HB6 := Lib.hid (HB5.out.trans (hb6.mono HB5.out.size))
      have HG6 := Lib.hid hI6
      have HC1 := Lib.hid (wrong4 12 (HI5.out.below hb6) (by decide) turned62)
      clear hI6 hb6 HS HB5 HI5 hsl
      go_wp2_with fail
      refine HC1.out.mono ?_
      rintro e w7 ⟨rfl, hb7⟩
      have HB7 := Lib.hid (HB6.out.trans (hb7.mono HB6.out.size))
      have HC2 := Lib.hid (wrong4 10 (HG6.out.below hb7) (by decide) great62)
      clear hb7 HC1 HB6 HG6
      go_wp2_with fail
      refine HC2.out.mono ?_
      rintro e w8 ⟨rfl, hb8⟩
      have HX0 := Lib.hid (HB7.out.trans (hb8.mono HB7.out.size))
      clear hb8 HC2 HB7
      have ha1 : Below w8.heap.size w8 (w8.alloc (.cells #[.int .u8 65, .int .u8 78] 5)) := (Below.refl _ _).alloc (Nat.le_refl _) _
      have HW1 := Lib.hid (HX0.out.trans (ha1.mono HX0.out.size))
      have hi1 : IsB (w8.alloc (.cells #[.int .u8 65, .int .u8 78] 5)) (some ⟨w8.heap.size, 0, none⟩) 2 2 [65, 78] := new_bytes w8 [65, 78] #[.int .u8 65, .int .u8 78] 5 (0, 0) 2 rfl rfl
      have HC1 := Lib.hid (wrong4 (w := (w8.alloc (.cells #[.int .u8 65, .int .u8 78] 5))) 10 hi1 (by decide) sw0)
      clear ha1 hi1
      go_wp2_with fail
      refine HC1.out.mono ?_
      rintro e x1 ⟨rfl, hb1⟩
      have HX1 := Lib.hid (HW1.out.trans (hb1.mono HW1.out.size))
      clear hb1 HC1 HW1 HX0
      have ha2 : Below x1.heap.size x1 (x1.alloc (.cells #[.int .u8 66] 5)) := (Below.refl _ _).alloc (Nat.le_refl _) _
      have HW2 := Lib.hid (HX1.out.trans (ha2.mono HX1.out.size))
      have hi2 : IsB (x1.alloc (.cells #[.int .u8 66] 5)) (some ⟨x1.heap.size, 0, none⟩) 1 1 [66] := new_bytes x1 [66] #[.int .u8 66] 5 (0, 0) 1 rfl rfl
      have HC2 := Lib.hid (wrong4 (w := (x1.alloc (.cells #[.int .u8 66] 5))) 10 hi2 (by decide) sw1)
      clear ha2 hi2
      go_wp2_with fail
      refine HC2.out.mono ?_
      rintro e x2 ⟨rfl, hb2⟩
      have HX2 := Lib.hid (HW2.out.trans (hb2.mono HW2.out.size))
      clear hb2 HC2 HW2 HX1
      have HW3 := HX2
      have HC3 := Lib.hid (wrong4 (w := x2) 11 (IsB.nil _) (by decide) sw2)
      go_wp2_with fail
      refine HC3.out.mono ?_
      rintro e x3 ⟨rfl, hb3⟩
      have HX3 := Lib.hid (HW3.out.trans (hb3.mono HW3.out.size))
      clear hb3 HC3 HW3 HX2
      have ha4 : Below x3.heap.size x3 (x3.alloc (.cells #[.int .u8 65, .int .u8 77, .int .u8 83] 5)) := (Below.refl _ _).alloc (Nat.le_refl _) _
      have HW4 := Lib.hid (HX3.out.trans (ha4.mono HX3.out.size))
      have hi4 : IsB (x3.alloc (.cells #[.int .u8 65, .int .u8 77, .int .u8 83] 5)) (some ⟨x3.heap.size, 0, none⟩) 3 3 [65, 77, 83] := new_bytes x3 [65, 77, 83] #[.int .u8 65, .int .u8 77, .int .u8 83] 5 (0, 0) 3 rfl rfl
      have HC4 := Lib.hid (wrong4 (w := (x3.alloc (.cells #[.int .u8 65, .int .u8 77, .int .u8 83] 5))) 11 hi4 (by decide) sw3)
      clear ha4 hi4
      go_wp2_with fail
      refine HC4.out.mono ?_
      rintro e x4 ⟨rfl, hb4⟩
      have HX4 := Lib.hid (HW4.out.trans (hb4.mono HW4.out.size))
      clear hb4 HC4 HW4 HX3
      have ha5 : Below x4.heap.size x4 (x4.alloc (.cells #[.int .u8 65, .int .u8 77, .int .u8 83, .int .u8 49, .int .u8 128, .int .u8 0] 5)) := (Below.refl _ _).alloc (Nat.le_refl _) _
      have HW5 := Lib.hid (HX4.out.trans (ha5.mono HX4.out.size))
      have hi5 : IsB (x4.alloc (.cells #[.int .u8 65, .int .u8 77, .int .u8 83, .int .u8 49, .int .u8 128, .int .u8 0] 5)) (some ⟨x4.heap.size, 0, none⟩) 6 6 [65, 77, 83, 49, 128, 0] := new_bytes x4 [65, 77, 83, 49, 128, 0] #[.int .u8 65, .int .u8 77, .int .u8 83, .int .u8 49, .int .u8 128, .int .u8 0] 5 (0, 0) 6 rfl rfl
      have HC5 := Lib.hid (wrong4 (w := (x4.alloc (.cells #[.int .u8 65, .int .u8 77, .int .u8 83, .int .u8 49, .int .u8 128, .int .u8 0] 5))) 10 hi5 (by decide) sw4)
      clear ha5 hi5
      go_wp2_with fail
      refine HC5.out.mono ?_
      rintro e x5 ⟨rfl, hb5⟩
      have HX5 := Lib.hid (HW5.out.trans (hb5.mono HW5.out.size))
      clear hb5 HC5 HW5 HX4
      have ha6 : Below x5.heap.size x5 (x5.alloc (.cells #[.int .u8 65, .int .u8 77, .int .u8 68, .int .u8 49, .int .u8 0] 5)) := (Below.refl _ _).alloc (Nat.le_refl _) _
      have HW6 := Lib.hid (HX5.out.trans (ha6.mono HX5.out.size))
      have hi6 : IsB (x5.alloc (.cells #[.int .u8 65, .int .u8 77, .int .u8 68, .int .u8 49, .int .u8 0] 5)) (some ⟨x5.heap.size, 0, none⟩) 5 5 [65, 77, 68, 49, 0] := new_bytes x5 [65, 77, 68, 49, 0] #[.int .u8 65, .int .u8 77, .int .u8 68, .int .u8 49, .int .u8 0] 5 (0, 0) 5 rfl rfl
      have HC6 := Lib.hid (wrong4 (w := (x5.alloc (.cells #[.int .u8 65, .int .u8 77, .int .u8 68, .int .u8 49, .int .u8 0] 5))) 10 hi6 (by decide) sw5)
      clear ha6 hi6
      go_wp2_with fail
      refine HC6.out.mono ?_
      rintro e x6 ⟨rfl, hb6⟩
      have HX6 := Lib.hid (HW6.out.trans (hb6.mono HW6.out.size))
      clear hb6 HC6 HW6 HX5
      obtain ⟨y1, hmk0, -, hbm⟩ := zeros_own x6 1 (by decide)
      have hmk : (Instr.makeSlice 60 (.int .i64 1) (.int .i64 1)).run Try.prog x6 = .ok (.slice (some ⟨x6.heap.size, 0, none⟩) 1 1) y1 := hmk0 .i64 .i64
      have HY1 := Lib.hid (HX6.out.trans (hbm.mono HX6.out.size))
      clear hmk0 hbm HX6
      go_wp2_with fail
      refine (Pack_no (-1) _ 1 1 y1 (.inl (by decide))).mono ?_
      rintro e w' ⟨rfl, rfl⟩
      clear hmk
      go_wp2_with fail
      refine (Pack_none 0 none 0 _ (by decide)).mono ?_
      rintro e w' ⟨rfl, rfl⟩
      obtain ⟨y2, hmk0, -, hbm⟩ := zeros_own y1 1048577 (by decide)
      have hmk : (Instr.makeSlice 60 (.int .i64 1048577) (.int .i64 1048577)).run Try.prog y1 = .ok (.slice (some ⟨y1.heap.size, 0, none⟩) 1048577 1048577) y2 := hmk0 .i64 .i64
      have HY2 := Lib.hid (HY1.out.trans (hbm.mono HY1.out.size))
      clear hmk0 hbm HY1
      go_wp2_with fail
      refine (Pack_long 0 _ 1048577 1048577 y2 (by decide) (by decide)).mono ?_
      rintro e w' ⟨rfl, rfl⟩
      clear hmk
      obtain ⟨M, hM⟩ : ∃ M : Nat, Hid (M = 1048576) := ⟨_, rfl⟩
      obtain ⟨y3, hmk0, hO3, hbm⟩ := zeros_own y2 M (by rw [hM.out]; decide)
      have hmk : (Instr.makeSlice 60 (.int .i64 1048576) (.int .i64 1048576)).run Try.prog y2 = .ok (.slice (some ⟨y2.heap.size, 0, none⟩) M M) y3 := by
        have h := hmk0 .i64 .i64
        rw [show (M : Int) = 1048576 by rw [hM.out]; rfl] at h
        exact h
      have hok : ∀ x ∈ List.replicate M Ev.zero, x.ok := fun x hx => by rw [(List.mem_replicate.1 hx).2]; exact Ev.zero_ok
      have hel : (List.replicate M Ev.zero).length = M := List.length_replicate
      have hM1 : 1 ≤ M := by rw [hM.out]; decide
      have hM2 : M ≤ 1048576 := by rw [hM.out]; decide
      have hdz := dense_zero M hM1 hM2
      generalize List.replicate M Ev.zero = es at hO3 hok hel hdz
      obtain ⟨A', n', c', he, hIm, -, -⟩ := hO3.is_
      simp only [Value.slice.injEq] at he
      obtain ⟨rfl, rfl, rfl⟩ := he
      have HP := Lib.hid (Pack_is 4611686018427387904 _ M M es y3 hIm hM1 hM2 hok (by decide))
      have HUP := Lib.hid (unpackOf_pack (first := 4611686018427387904) (es := es) (by decide) (by rw [hel]; exact hM1) (by rw [hel]; exact hM2) hok)
      have HY3 := Lib.hid (HY2.out.trans (hbm.mono HY2.out.size))
      have hMq : ((M : Int) == 1048576) = true := by rw [hM.out]; rfl
      clear hO3 hIm hbm hmk0 HY2 hok
      go_wp2_with fail
      refine HP.out.mono ?_
      rintro e y4 ⟨A4, m4, c4, rfl, hI4, hb4⟩
      have hm4 := hI4.len
      have HU4 := Lib.hid (Unpack_is hI4 (by omega) HUP.out)
      have HY4 := Lib.hid (HY3.out.trans (hb4.mono HY3.out.size))
      clear hI4 hb4 HP HY3 hmk hdz hm4
      go_wp2_with fail
      refine HU4.out.mono ?_
      rintro e y5 ⟨A5', m5', c5', rfl, hE5, hb5⟩
      obtain rfl : M = m5' := hel.symm.trans hE5.len
      have HV0 := Lib.hid (HY4.out.trans (hb5.mono HY4.out.size))
      clear hE5 hb5 HU4 HUP HY4
      have hau1 : Below y5.heap.size y5 (y5.alloc (.cells #[.int .u8 1, .int .u8 2, .int .u8 3] 5)) := (Below.refl _ _).alloc (Nat.le_refl _) _
      have HWu1 := Lib.hid (HV0.out.trans (hau1.mono HV0.out.size))
      have hiu1 : IsB (y5.alloc (.cells #[.int .u8 1, .int .u8 2, .int .u8 3] 5)) (some ⟨y5.heap.size, 0, none⟩) 3 3 [1, 2, 3] := new_bytes y5 [1, 2, 3] #[.int .u8 1, .int .u8 2, .int .u8 3] 5 (0, 0) 3 rfl rfl
      have hc1 := Unpack_any _ 3 3 [1, 2, 3] _ hiu1 (by decide)
      rw [up0] at hc1
      have HCu1 := Lib.hid hc1
      clear hc1 hau1 hiu1
      go_wp2_with fail
      refine HCu1.out.mono ?_
      rintro e v1 ⟨⟨q1, rfl, hO1⟩, hb1⟩
      have HV1 := Lib.hid (HWu1.out.trans (hb1.mono HWu1.out.size))
      clear hO1 hb1 HCu1 HWu1 HV0
      have hau2 : Below v1.heap.size v1 (v1.alloc (.cells #[.int .u8 65, .int .u8 77, .int .u8 68, .int .u8 49, .int .u8 0] 5)) := (Below.refl _ _).alloc (Nat.le_refl _) _
      have HWu2 := Lib.hid (HV1.out.trans (hau2.mono HV1.out.size))
      have hiu2 : IsB (v1.alloc (.cells #[.int .u8 65, .int .u8 77, .int .u8 68, .int .u8 49, .int .u8 0] 5)) (some ⟨v1.heap.size, 0, none⟩) 5 5 [65, 77, 68, 49, 0] := new_bytes v1 [65, 77, 68, 49, 0] #[.int .u8 65, .int .u8 77, .int .u8 68, .int .u8 49, .int .u8 0] 5 (0, 0) 5 rfl rfl
      have hc2 := Unpack_any _ 5 5 [65, 77, 68, 49, 0] _ hiu2 (by decide)
      rw [up1] at hc2
      have HCu2 := Lib.hid hc2
      clear hc2 hau2 hiu2
      go_wp2_with fail
      refine HCu2.out.mono ?_
      rintro e v2 ⟨⟨q2, rfl, hO2⟩, hb2⟩
      have HV2 := Lib.hid (HWu2.out.trans (hb2.mono HWu2.out.size))
      clear hO2 hb2 HCu2 HWu2 HV1
      have HWn0 := HV2
      have HCn0 := Lib.hid (none4 (w := v2) (IsB.nil _) (by decide) nn0)
      go_wp2_with fail
      refine HCn0.out.mono ?_
      rintro e z0 ⟨rfl, hb0⟩
      have HZ0 := Lib.hid (HWn0.out.trans (hb0.mono HWn0.out.size))
      clear hb0 HCn0 HWn0 HV2
      have han1 : Below z0.heap.size z0 (z0.alloc (.cells #[.int .u8 65, .int .u8 77, .int .u8 83, .int .u8 49, .int .u8 0, .int .u8 1, .int .u8 0, .int .u8 1, .int .u8 0, .int .u8 1, .int .u8 0, .int .u8 1, .int .u8 0, .int .u8 1, .int .u8 0, .int .u8 1] 5)) := (Below.refl _ _).alloc (Nat.le_refl _) _
      have HWn1 := Lib.hid (HZ0.out.trans (han1.mono HZ0.out.size))
      have hin1 : IsB (z0.alloc (.cells #[.int .u8 65, .int .u8 77, .int .u8 83, .int .u8 49, .int .u8 0, .int .u8 1, .int .u8 0, .int .u8 1, .int .u8 0, .int .u8 1, .int .u8 0, .int .u8 1, .int .u8 0, .int .u8 1, .int .u8 0, .int .u8 1] 5)) (some ⟨z0.heap.size, 0, none⟩) 16 16 [65, 77, 83, 49, 0, 1, 0, 1, 0, 1, 0, 1, 0, 1, 0, 1] := new_bytes z0 [65, 77, 83, 49, 0, 1, 0, 1, 0, 1, 0, 1, 0, 1, 0, 1] #[.int .u8 65, .int .u8 77, .int .u8 83, .int .u8 49, .int .u8 0, .int .u8 1, .int .u8 0, .int .u8 1, .int .u8 0, .int .u8 1, .int .u8 0, .int .u8 1, .int .u8 0, .int .u8 1, .int .u8 0, .int .u8 1] 5 (0, 0) 16 rfl rfl
      have HCn1 := Lib.hid (none4 (w := (z0.alloc (.cells #[.int .u8 65, .int .u8 77, .int .u8 83, .int .u8 49, .int .u8 0, .int .u8 1, .int .u8 0, .int .u8 1, .int .u8 0, .int .u8 1, .int .u8 0, .int .u8 1, .int .u8 0, .int .u8 1, .int .u8 0, .int .u8 1] 5))) hin1 (by decide) nn1)
      clear han1 hin1
      go_wp2_with fail
      refine HCn1.out.mono ?_
      rintro e z1 ⟨rfl, hb1⟩
      have HZ1 := Lib.hid (HWn1.out.trans (hb1.mono HWn1.out.size))
      clear hb1 HCn1 HWn1 HZ0
      have han2 : Below z1.heap.size z1 (z1.alloc (.cells #[.int .u8 65, .int .u8 77, .int .u8 68, .int .u8 49, .int .u8 0, .int .u8 0] 5)) := (Below.refl _ _).alloc (Nat.le_refl _) _
      have HWn2 := Lib.hid (HZ1.out.trans (han2.mono HZ1.out.size))
      have hin2 : IsB (z1.alloc (.cells #[.int .u8 65, .int .u8 77, .int .u8 68, .int .u8 49, .int .u8 0, .int .u8 0] 5)) (some ⟨z1.heap.size, 0, none⟩) 6 6 [65, 77, 68, 49, 0, 0] := new_bytes z1 [65, 77, 68, 49, 0, 0] #[.int .u8 65, .int .u8 77, .int .u8 68, .int .u8 49, .int .u8 0, .int .u8 0] 5 (0, 0) 6 rfl rfl
      have HCn2 := Lib.hid (none4 (w := (z1.alloc (.cells #[.int .u8 65, .int .u8 77, .int .u8 68, .int .u8 49, .int .u8 0, .int .u8 0] 5))) hin2 (by decide) nn2)
      clear han2 hin2
      go_wp2_with fail
      refine HCn2.out.mono ?_
      rintro e z2 ⟨rfl, hb2⟩
      have HZ2 := Lib.hid (HWn2.out.trans (hb2.mono HWn2.out.size))
      clear hb2 HCn2 HWn2 HZ1
      have han3 : Below z2.heap.size z2 (z2.alloc (.cells #[.int .u8 65, .int .u8 77, .int .u8 68, .int .u8 49, .int .u8 0, .int .u8 1, .int .u8 0, .int .u8 1, .int .u8 0, .int .u8 1, .int .u8 0, .int .u8 1, .int .u8 0, .int .u8 1, .int .u8 0] 5)) := (Below.refl _ _).alloc (Nat.le_refl _) _
      have HWn3 := Lib.hid (HZ2.out.trans (han3.mono HZ2.out.size))
      have hin3 : IsB (z2.alloc (.cells #[.int .u8 65, .int .u8 77, .int .u8 68, .int .u8 49, .int .u8 0, .int .u8 1, .int .u8 0, .int .u8 1, .int .u8 0, .int .u8 1, .int .u8 0, .int .u8 1, .int .u8 0, .int .u8 1, .int .u8 0] 5)) (some ⟨z2.heap.size, 0, none⟩) 15 15 [65, 77, 68, 49, 0, 1, 0, 1, 0, 1, 0, 1, 0, 1, 0] := new_bytes z2 [65, 77, 68, 49, 0, 1, 0, 1, 0, 1, 0, 1, 0, 1, 0] #[.int .u8 65, .int .u8 77, .int .u8 68, .int .u8 49, .int .u8 0, .int .u8 1, .int .u8 0, .int .u8 1, .int .u8 0, .int .u8 1, .int .u8 0, .int .u8 1, .int .u8 0, .int .u8 1, .int .u8 0] 5 (0, 0) 15 rfl rfl
      have HCn3 := Lib.hid (none4 (w := (z2.alloc (.cells #[.int .u8 65, .int .u8 77, .int .u8 68, .int .u8 49, .int .u8 0, .int .u8 1, .int .u8 0, .int .u8 1, .int .u8 0, .int .u8 1, .int .u8 0, .int .u8 1, .int .u8 0, .int .u8 1, .int .u8 0] 5))) hin3 (by decide) nn3)
      clear han3 hin3
      go_wp2_with fail
      refine HCn3.out.mono ?_
      rintro e z3 ⟨rfl, hb3⟩
      have HZ3 := Lib.hid (HWn3.out.trans (hb3.mono HWn3.out.size))
      clear hb3 HCn3 HWn3 HZ2
      have han4 : Below z3.heap.size z3 (z3.alloc (.cells #[.int .u8 65, .int .u8 77, .int .u8 68, .int .u8 49, .int .u8 0, .int .u8 1, .int .u8 0, .int .u8 1, .int .u8 0, .int .u8 1, .int .u8 0, .int .u8 1, .int .u8 0, .int .u8 1, .int .u8 0, .int .u8 1, .int .u8 0] 5)) := (Below.refl _ _).alloc (Nat.le_refl _) _
      have HWn4 := Lib.hid (HZ3.out.trans (han4.mono HZ3.out.size))
      have hin4 : IsB (z3.alloc (.cells #[.int .u8 65, .int .u8 77, .int .u8 68, .int .u8 49, .int .u8 0, .int .u8 1, .int .u8 0, .int .u8 1, .int .u8 0, .int .u8 1, .int .u8 0, .int .u8 1, .int .u8 0, .int .u8 1, .int .u8 0, .int .u8 1, .int .u8 0] 5)) (some ⟨z3.heap.size, 0, none⟩) 17 17 [65, 77, 68, 49, 0, 1, 0, 1, 0, 1, 0, 1, 0, 1, 0, 1, 0] := new_bytes z3 [65, 77, 68, 49, 0, 1, 0, 1, 0, 1, 0, 1, 0, 1, 0, 1, 0] #[.int .u8 65, .int .u8 77, .int .u8 68, .int .u8 49, .int .u8 0, .int .u8 1, .int .u8 0, .int .u8 1, .int .u8 0, .int .u8 1, .int .u8 0, .int .u8 1, .int .u8 0, .int .u8 1, .int .u8 0, .int .u8 1, .int .u8 0] 5 (0, 0) 17 rfl rfl
      have HCn4 := Lib.hid (none4 (w := (z3.alloc (.cells #[.int .u8 65, .int .u8 77, .int .u8 68, .int .u8 49, .int .u8 0, .int .u8 1, .int .u8 0, .int .u8 1, .int .u8 0, .int .u8 1, .int .u8 0, .int .u8 1, .int .u8 0, .int .u8 1, .int .u8 0, .int .u8 1, .int .u8 0] 5))) hin4 (by decide) nn4)
      clear han4 hin4
      go_wp2_with fail
      refine HCn4.out.mono ?_
      rintro e z4 ⟨rfl, hb4⟩
      have HZ4 := Lib.hid (HWn4.out.trans (hb4.mono HWn4.out.size))
      clear hb4 HCn4 HWn4 HZ3
      have han5 : Below z4.heap.size z4 (z4.alloc (.cells #[.int .u8 65, .int .u8 77, .int .u8 68, .int .u8 49, .int .u8 0, .int .u8 1, .int .u8 0, .int .u8 2, .int .u8 0, .int .u8 1, .int .u8 0, .int .u8 1, .int .u8 0, .int .u8 1, .int .u8 0, .int .u8 1] 5)) := (Below.refl _ _).alloc (Nat.le_refl _) _
      have HWn5 := Lib.hid (HZ4.out.trans (han5.mono HZ4.out.size))
      have hin5 : IsB (z4.alloc (.cells #[.int .u8 65, .int .u8 77, .int .u8 68, .int .u8 49, .int .u8 0, .int .u8 1, .int .u8 0, .int .u8 2, .int .u8 0, .int .u8 1, .int .u8 0, .int .u8 1, .int .u8 0, .int .u8 1, .int .u8 0, .int .u8 1] 5)) (some ⟨z4.heap.size, 0, none⟩) 16 16 [65, 77, 68, 49, 0, 1, 0, 2, 0, 1, 0, 1, 0, 1, 0, 1] := new_bytes z4 [65, 77, 68, 49, 0, 1, 0, 2, 0, 1, 0, 1, 0, 1, 0, 1] #[.int .u8 65, .int .u8 77, .int .u8 68, .int .u8 49, .int .u8 0, .int .u8 1, .int .u8 0, .int .u8 2, .int .u8 0, .int .u8 1, .int .u8 0, .int .u8 1, .int .u8 0, .int .u8 1, .int .u8 0, .int .u8 1] 5 (0, 0) 16 rfl rfl
      have HCn5 := Lib.hid (none4 (w := (z4.alloc (.cells #[.int .u8 65, .int .u8 77, .int .u8 68, .int .u8 49, .int .u8 0, .int .u8 1, .int .u8 0, .int .u8 2, .int .u8 0, .int .u8 1, .int .u8 0, .int .u8 1, .int .u8 0, .int .u8 1, .int .u8 0, .int .u8 1] 5))) hin5 (by decide) nn5)
      clear han5 hin5
      go_wp2_with fail
      refine HCn5.out.mono ?_
      rintro e z5 ⟨rfl, hb5⟩
      have HZ5 := Lib.hid (HWn5.out.trans (hb5.mono HWn5.out.size))
      clear hb5 HCn5 HWn5 HZ4
      have han6 : Below z5.heap.size z5 (z5.alloc (.cells #[.int .u8 65, .int .u8 77, .int .u8 68, .int .u8 49, .int .u8 0, .int .u8 1, .int .u8 0, .int .u8 0, .int .u8 0, .int .u8 1, .int .u8 0, .int .u8 1, .int .u8 0, .int .u8 1, .int .u8 0, .int .u8 1] 5)) := (Below.refl _ _).alloc (Nat.le_refl _) _
      have HWn6 := Lib.hid (HZ5.out.trans (han6.mono HZ5.out.size))
      have hin6 : IsB (z5.alloc (.cells #[.int .u8 65, .int .u8 77, .int .u8 68, .int .u8 49, .int .u8 0, .int .u8 1, .int .u8 0, .int .u8 0, .int .u8 0, .int .u8 1, .int .u8 0, .int .u8 1, .int .u8 0, .int .u8 1, .int .u8 0, .int .u8 1] 5)) (some ⟨z5.heap.size, 0, none⟩) 16 16 [65, 77, 68, 49, 0, 1, 0, 0, 0, 1, 0, 1, 0, 1, 0, 1] := new_bytes z5 [65, 77, 68, 49, 0, 1, 0, 0, 0, 1, 0, 1, 0, 1, 0, 1] #[.int .u8 65, .int .u8 77, .int .u8 68, .int .u8 49, .int .u8 0, .int .u8 1, .int .u8 0, .int .u8 0, .int .u8 0, .int .u8 1, .int .u8 0, .int .u8 1, .int .u8 0, .int .u8 1, .int .u8 0, .int .u8 1] 5 (0, 0) 16 rfl rfl
      have HCn6 := Lib.hid (none4 (w := (z5.alloc (.cells #[.int .u8 65, .int .u8 77, .int .u8 68, .int .u8 49, .int .u8 0, .int .u8 1, .int .u8 0, .int .u8 0, .int .u8 0, .int .u8 1, .int .u8 0, .int .u8 1, .int .u8 0, .int .u8 1, .int .u8 0, .int .u8 1] 5))) hin6 (by decide) nn6)
      clear han6 hin6
      go_wp2_with fail
      refine HCn6.out.mono ?_
      rintro e z6 ⟨rfl, hb6⟩
      have HZ6 := Lib.hid (HWn6.out.trans (hb6.mono HWn6.out.size))
      clear hb6 HCn6 HWn6 HZ5
      have han7 : Below z6.heap.size z6 (z6.alloc (.cells #[.int .u8 65, .int .u8 77, .int .u8 68, .int .u8 49, .int .u8 0, .int .u8 2, .int .u8 0, .int .u8 1, .int .u8 0, .int .u8 1, .int .u8 0, .int .u8 2, .int .u8 0, .int .u8 2, .int .u8 0, .int .u8 2, .int .u8 0, .int .u8 2] 5)) := (Below.refl _ _).alloc (Nat.le_refl _) _
      have HWn7 := Lib.hid (HZ6.out.trans (han7.mono HZ6.out.size))
      have hin7 : IsB (z6.alloc (.cells #[.int .u8 65, .int .u8 77, .int .u8 68, .int .u8 49, .int .u8 0, .int .u8 2, .int .u8 0, .int .u8 1, .int .u8 0, .int .u8 1, .int .u8 0, .int .u8 2, .int .u8 0, .int .u8 2, .int .u8 0, .int .u8 2, .int .u8 0, .int .u8 2] 5)) (some ⟨z6.heap.size, 0, none⟩) 18 18 [65, 77, 68, 49, 0, 2, 0, 1, 0, 1, 0, 2, 0, 2, 0, 2, 0, 2] := new_bytes z6 [65, 77, 68, 49, 0, 2, 0, 1, 0, 1, 0, 2, 0, 2, 0, 2, 0, 2] #[.int .u8 65, .int .u8 77, .int .u8 68, .int .u8 49, .int .u8 0, .int .u8 2, .int .u8 0, .int .u8 1, .int .u8 0, .int .u8 1, .int .u8 0, .int .u8 2, .int .u8 0, .int .u8 2, .int .u8 0, .int .u8 2, .int .u8 0, .int .u8 2] 5 (0, 0) 18 rfl rfl
      have HCn7 := Lib.hid (none4 (w := (z6.alloc (.cells #[.int .u8 65, .int .u8 77, .int .u8 68, .int .u8 49, .int .u8 0, .int .u8 2, .int .u8 0, .int .u8 1, .int .u8 0, .int .u8 1, .int .u8 0, .int .u8 2, .int .u8 0, .int .u8 2, .int .u8 0, .int .u8 2, .int .u8 0, .int .u8 2] 5))) hin7 (by decide) nn7)
      clear han7 hin7
      go_wp2_with fail
      refine HCn7.out.mono ?_
      rintro e z7 ⟨rfl, hb7⟩
      have HZ7 := Lib.hid (HWn7.out.trans (hb7.mono HWn7.out.size))
      clear hb7 HCn7 HWn7 HZ6
      have han8 : Below z7.heap.size z7 (z7.alloc (.cells #[.int .u8 65, .int .u8 77, .int .u8 68, .int .u8 49, .int .u8 0, .int .u8 1, .int .u8 0, .int .u8 1, .int .u8 1, .int .u8 1, .int .u8 0, .int .u8 1, .int .u8 0, .int .u8 1, .int .u8 0, .int .u8 1] 5)) := (Below.refl _ _).alloc (Nat.le_refl _) _
      have HWn8 := Lib.hid (HZ7.out.trans (han8.mono HZ7.out.size))
      have hin8 : IsB (z7.alloc (.cells #[.int .u8 65, .int .u8 77, .int .u8 68, .int .u8 49, .int .u8 0, .int .u8 1, .int .u8 0, .int .u8 1, .int .u8 1, .int .u8 1, .int .u8 0, .int .u8 1, .int .u8 0, .int .u8 1, .int .u8 0, .int .u8 1] 5)) (some ⟨z7.heap.size, 0, none⟩) 16 16 [65, 77, 68, 49, 0, 1, 0, 1, 1, 1, 0, 1, 0, 1, 0, 1] := new_bytes z7 [65, 77, 68, 49, 0, 1, 0, 1, 1, 1, 0, 1, 0, 1, 0, 1] #[.int .u8 65, .int .u8 77, .int .u8 68, .int .u8 49, .int .u8 0, .int .u8 1, .int .u8 0, .int .u8 1, .int .u8 1, .int .u8 1, .int .u8 0, .int .u8 1, .int .u8 0, .int .u8 1, .int .u8 0, .int .u8 1] 5 (0, 0) 16 rfl rfl
      have HCn8 := Lib.hid (none4 (w := (z7.alloc (.cells #[.int .u8 65, .int .u8 77, .int .u8 68, .int .u8 49, .int .u8 0, .int .u8 1, .int .u8 0, .int .u8 1, .int .u8 1, .int .u8 1, .int .u8 0, .int .u8 1, .int .u8 0, .int .u8 1, .int .u8 0, .int .u8 1] 5))) hin8 (by decide) nn8)
      clear han8 hin8
      go_wp2_with fail
      refine HCn8.out.mono ?_
      rintro e z8 ⟨rfl, hb8⟩
      have HZ8 := Lib.hid (HWn8.out.trans (hb8.mono HWn8.out.size))
      clear hb8 HCn8 HWn8 HZ7
      have han9 : Below z8.heap.size z8 (z8.alloc (.cells #[.int .u8 65, .int .u8 77, .int .u8 68, .int .u8 49, .int .u8 0, .int .u8 129, .int .u8 128, .int .u8 64] 5)) := (Below.refl _ _).alloc (Nat.le_refl _) _
      have HWn9 := Lib.hid (HZ8.out.trans (han9.mono HZ8.out.size))
      have hin9 : IsB (z8.alloc (.cells #[.int .u8 65, .int .u8 77, .int .u8 68, .int .u8 49, .int .u8 0, .int .u8 129, .int .u8 128, .int .u8 64] 5)) (some ⟨z8.heap.size, 0, none⟩) 8 8 [65, 77, 68, 49, 0, 129, 128, 64] := new_bytes z8 [65, 77, 68, 49, 0, 129, 128, 64] #[.int .u8 65, .int .u8 77, .int .u8 68, .int .u8 49, .int .u8 0, .int .u8 129, .int .u8 128, .int .u8 64] 5 (0, 0) 8 rfl rfl
      have HCn9 := Lib.hid (none4 (w := (z8.alloc (.cells #[.int .u8 65, .int .u8 77, .int .u8 68, .int .u8 49, .int .u8 0, .int .u8 129, .int .u8 128, .int .u8 64] 5))) hin9 (by decide) nn9)
      clear han9 hin9
      go_wp2_with fail
      refine HCn9.out.mono ?_
      rintro e z9 ⟨rfl, hb9⟩
      have HZ9 := Lib.hid (HWn9.out.trans (hb9.mono HWn9.out.size))
      clear hb9 HCn9 HWn9 HZ8
      go_wp2_with fail
      refine (awake4_any _).mono ?_
      rintro e z11 ⟨rfl, hb11⟩
      go_wp2_with fail
      go_ret
      exact ⟨rfl, HZ9.out.trans (hb11.mono HZ9.out.size)⟩
end Go.Proofs.Ytiockkphciadeaa
