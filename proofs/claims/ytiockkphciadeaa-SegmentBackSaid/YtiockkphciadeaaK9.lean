/-
  Head, Pack, Scan and Unpack as the statements meet them.
-/
import Derived.Test.YtiockkphciadeaaKSgAwake
import Derived.Test.YtiockkphciadeaaK5
import Derived.Deep.CutRange
set_option linter.unusedVariables false
set_option linter.unusedSimpArgs false
namespace Go.Proofs.Ytiockkphciadeaa
open Go.RowKit
open Go.Lib (byteCells byteCells_length byteCells_append uvarint)

theorem Head_is (first : Nat) (w : World) (hf : first ≤ 4611686018427387904) :
    Calls Try.prog 35 #[.int .i64 (first : Int)] w fun e w' => ∃ A m c, e = .returned (.tuple #[.slice A m c, .int .i64 0]) ∧ IsB w' A m c (headOf first) ∧ Below w.heap.size w w' := by
  refine (Head_any first w hf).mono ?_
  rintro e w' ⟨v, rfl, ho, hb⟩
  obtain ⟨A, m, c, rfl, hI⟩ := own_slice ho
  exact ⟨A, m, c, rfl, hI, hb⟩
theorem Pack_is (first : Nat) (A : Option Addr) (n c : Nat) (es : List Ev) (w : World) (h : IsEv w A n c es) (h1 : 1 ≤ n) (hn : n ≤ 1048576) (hok : ∀ x ∈ es, x.ok) (hf : first ≤ 4611686018427387904) :
    Calls Try.prog 42 #[.int .i64 (first : Int), .slice A n c] w fun e w' => ∃ A' m c', e = .returned (.tuple #[.slice A' m c', .int .i64 0]) ∧ IsB w' A' m c' (sealed (denseOf first es)) ∧ Below w.heap.size w w' := by
  refine (Pack_any first A n c es w h h1 hn hok hf).mono ?_
  rintro e w' ⟨v, rfl, ho, hb⟩
  obtain ⟨A', m, c', rfl, hI⟩ := own_slice ho
  exact ⟨A', m, c', rfl, hI, hb⟩
theorem Scan_is {w : World} {A : Option Addr} {n c f k : Nat} {l : List UInt8} {es : List Ev} (h : IsB w A n c l) (hn : n ≤ 1000000) (hs : scanOf l = (f, es, k, 0)) :
    Calls Try.prog 38 #[.slice A n c] w fun e w' => ∃ B b d, e = .returned (.tuple #[.int .i64 (f : Int), .slice B b d, .int .i64 (k : Int), .int .i64 0]) ∧ IsEv w' B b d es ∧ Below w.heap.size w w' := by
  refine (Scan_any A n c l w h hn).mono ?_
  rintro e w' ⟨⟨v, rfl, hO⟩, hb⟩
  rw [hs] at hO ⊢
  obtain ⟨B, b, d, rfl, hI, -, -⟩ := hO.is_
  exact ⟨B, b, d, rfl, hI, hb⟩
theorem Unpack_is {w : World} {A : Option Addr} {n c f : Nat} {l : List UInt8} {es : List Ev} (h : IsB w A n c l) (hn : n ≤ 1000000) (hs : unpackOf l = (f, es, 0)) :
    Calls Try.prog 43 #[.slice A n c] w fun e w' => ∃ B b d, e = .returned (.tuple #[.int .i64 (f : Int), .slice B b d, .int .i64 0]) ∧ IsEv w' B b d es ∧ Below w.heap.size w w' := by
  refine (Unpack_any A n c l w h hn).mono ?_
  rintro e w' ⟨⟨v, rfl, hO⟩, hb⟩
  rw [hs] at hO ⊢
  obtain ⟨B, b, d, rfl, hI, -, -⟩ := hO.is_
  exact ⟨B, b, d, rfl, hI, hb⟩
theorem scan_head (f : Nat) (hf : f ≤ 4611686018427387904) : scanOf (headOf f) = (f, [], (headOf f).length, 0) := by
  have h := scanOf_seg (l := headOf f) (r := []) (first := f) (fs := []) hf (fun f hf => by cases hf) (by simp [framesOf]) (rd_end (by show (headOf f).length ≤ (headOf f).length + 0; omega))
  rw [h]
  rfl
theorem cols_small (es : List Ev) (h : es.length ≤ 1048576) : ∀ k, (colsTo es k).length ≤ 20 * es.length * k
  | 0 => by simp [colsTo]
  | k + 1 => by
    have h1 := cols_small es h k
    have h2 := numsBytes_most (es.map (colGet k)) (by rw [List.length_map]; exact h)
    rw [List.length_map] at h2
    show (colsTo es k ++ _).length ≤ _
    rw [List.length_append, Nat.mul_add]
    omega
theorem dense_most (f : Nat) (es : List Ev) (h : es.length ≤ 300) (hf : f ≤ 4611686018427387904) : (sealed (denseOf f es)).length ≤ 40000 := by
  have h1 := cols_small es (by omega) 5
  have h2 := Lib.uvarint_length64 (x := f) (by omega)
  have h3 := Lib.uvarint_length64 (x := es.length) (by omega)
  have h4 := beginOf_length (mark := denseMark) rfl f
  unfold sealed denseOf
  rw [List.length_append, List.length_append, List.length_append, sumBytes_length]
  omega
theorem denseOf_inj {a b : Nat} {l m : List Ev} (ha : a ≤ 4611686018427387904) (hb : b ≤ 4611686018427387904) (h : denseOf a l = denseOf b m) : a = b := by
  unfold denseOf beginOf at h
  rw [List.append_assoc, List.append_assoc] at h
  exact (uvarint_front (by omega) (by omega) (List.append_cancel_left h)).1
end Go.Proofs.Ytiockkphciadeaa

/-
  Events in frames of so many, behind a head.
-/
set_option linter.unusedVariables false
set_option linter.unusedSimpArgs false
namespace Go.Proofs.Ytiockkphciadeaa
open Go.RowKit
open Go.Lib (byteCells byteCells_length byteCells_append uvarint)

def chunk (k : Nat) (es : List Ev) (j : Nat) : List Ev := (es.drop (j * k)).take k
def chunks (k : Nat) (es : List Ev) (j : Nat) : List (List Ev) := (List.range j).map (chunk k es)
theorem chunks_succ (k : Nat) (es : List Ev) (j : Nat) : chunks k es (j + 1) = chunks k es j ++ [chunk k es j] := by
  unfold chunks
  rw [List.range_succ, List.map_append]
  rfl
theorem chunks_flat (k : Nat) (es : List Ev) : ∀ j, (chunks k es j).flatten = es.take (j * k)
  | 0 => by simp [chunks]
  | j + 1 => by
    rw [chunks_succ, List.flatten_append, chunks_flat k es j, Nat.add_mul, Nat.one_mul, List.take_add]
    simp [chunk]
theorem chunk_evs {k : Nat} {es : List Ev} {j : Nat} (hk : 1 ≤ k) (hk9 : k ≤ 100) (hj : j * k < es.length) (hok : ∀ e ∈ es, e.ok) : Evs (chunk k es j) := by
  refine ⟨?_, ?_, fun x hx => hok x (List.mem_of_mem_drop (List.mem_of_mem_take hx))⟩
  · unfold chunk; rw [List.length_take, List.length_drop]; omega
  · unfold chunk; rw [List.length_take]; omega
theorem chunks_evs {k : Nat} {es : List Ev} {j : Nat} (hk : 1 ≤ k) (hk9 : k ≤ 100) (hj : (j - 1) * k < es.length ∨ j = 0) (hok : ∀ e ∈ es, e.ok) : ∀ f ∈ chunks k es j, Evs f := by
  intro f hf
  obtain ⟨i, hi, rfl⟩ := List.mem_map.1 hf
  have hij := List.mem_range.1 hi
  refine chunk_evs hk hk9 ?_ hok
  rcases hj with h | h
  · exact Nat.lt_of_le_of_lt (Nat.mul_le_mul_right k (by omega)) h
  · omega
def segOf (first k : Nat) (es : List Ev) (j : Nat) : List UInt8 := headOf first ++ framesOf (chunks k es j)
theorem segOf_succ (first k : Nat) (es : List Ev) (j : Nat) : segOf first k es (j + 1) = segOf first k es j ++ frameOf (chunk k es j) := by
  unfold segOf
  rw [chunks_succ]
  unfold framesOf
  rw [List.flatMap_append, List.append_assoc]
  simp
theorem frame_most {f : List Ev} (h : f.length ≤ 100) : (frameOf f).length ≤ 5000 := by
  have h1 := encEvs_most f Ev.zero
  have h2 := Lib.uvarint_length64 (x := f.length) (by omega)
  have h3 : (bodyOf f).length ≤ 4200 := by unfold bodyOf; rw [List.length_append]; omega
  have h4 := Lib.uvarint_length64 (x := (bodyOf f).length) (by omega)
  rw [frameOf_length]
  omega
theorem segOf_most {first k : Nat} {es : List Ev} (hf : first ≤ 4611686018427387904) (hk : k ≤ 100) : ∀ j, (segOf first k es j).length ≤ 18 + 5000 * j
  | 0 => by
    have := headOf_most (first := first) (by omega)
    show (headOf first ++ []).length ≤ _
    rw [List.append_nil]
    omega
  | j + 1 => by
    have h1 := segOf_most (first := first) (k := k) (es := es) hf hk j
    have h2 := frame_most (f := chunk k es j) (by unfold chunk; rw [List.length_take]; omega)
    rw [segOf_succ, List.length_append]
    omega
theorem scan_seg {first k : Nat} {es : List Ev} {j : Nat} {r : List UInt8} (hf : first ≤ 4611686018427387904) (hk : 1 ≤ k) (hk9 : k ≤ 100) (hj : (j - 1) * k < es.length ∨ j = 0) (hok : ∀ e ∈ es, e.ok)
    (hr : (rdFrame (segOf first k es j ++ r) (segOf first k es j).length).2.2 ≠ 0) : scanOf (segOf first k es j ++ r) = (first, es.take (j * k), (segOf first k es j).length, 0) := by
  have hl : (segOf first k es j).length = (headOf first).length + (framesOf (chunks k es j)).length := by unfold segOf; rw [List.length_append]
  have h := scanOf_seg (l := segOf first k es j ++ r) (r := r) (first := first) (fs := chunks k es j) hf (chunks_evs hk hk9 hj hok) (by unfold segOf; rw [List.append_assoc]) (by rw [← hl]; exact hr)
  rw [h, chunks_flat, hl]
theorem rd_nought {l r : List UInt8} {k : Nat} (h : l.drop k = 0 :: r) : (rdFrame l k).2.2 ≠ 0 := by
  intro h0
  obtain ⟨he, s, hd, hn⟩ := rdFrame_sound h0
  generalize (rdFrame l k).1 = f at he hd
  rw [h] at hd
  unfold frameOf at hd
  rw [List.append_assoc] at hd
  have h1 : uvarint 0 ++ r = uvarint (bodyOf f).length ++ (sealed (bodyOf f) ++ s) := by rw [uv0]; exact hd
  have hm := bodyOf_most he.most
  have h2 := (uvarint_front (by decide) (by omega) h1).1
  have h3 : 1 ≤ (bodyOf f).length := by
    unfold bodyOf
    have := Lib.uvarint_pos f.length
    rw [List.length_append]
    omega
  omega

theorem run_cutE (w : World) (A : Option Addr) (n c i j : Nat) (hij : i ≤ j) (hj : j ≤ c) :
    (Instr.slice 60 (.slice A n c) (some (.int .i64 (i : Int))) (some (.int .i64 (j : Int))) none).run Try.prog w = .ok (.slice (if c = i then A else A.map (·.add (i * 5))) (j - i) (c - i)) w := by
  obtain ⟨i0, hi, hz0, hz1, hz2⟩ := info_parts infoEv
  have ht : Try.prog.underlying 60 = some (.slice (Try.prog.elem 60)) := by simp [Program.elem, Try.underlying60]
  have he : Try.prog.elem 60 = 54 := by simp [Program.elem, Try.underlying60]
  rw [run_slice_lh w 60 A n c ht .i64 .i64 (i : Int) (j : Int) (by omega) (by omega) (by omega), he]
  simp [sizeOf, typeInfo, hi, hz1, Result.andThen, sliced]
theorem IsEv.cut {w : World} {A : Option Addr} {n c : Nat} {l : List Ev} (h : IsEv w A n c l) {i m : Nat} (hi : i + m ≤ n) :
    IsEv w (if c = i then A else A.map (·.add (i * 5))) m (c - i) ((l.drop i).take m) := by
  obtain ⟨hl, hc, hnone, hsrc⟩ := h
  refine ⟨by rw [List.length_take, List.length_drop]; omega, by omega, fun e => ?_, ?_⟩
  · by_cases hci : c = i
    · omega
    · rw [if_neg hci] at e
      cases A with
      | none => have := hnone rfl; omega
      | some a => simp at e
  · rcases Nat.eq_zero_or_pos m with h0 | h0
    · subst h0; exact .inl (by simp)
    · rw [if_neg (by omega)]
      rcases hsrc with rfl | ⟨b, o, rfl, hcell⟩
      · simp at hl; omega
      · refine .inr ⟨b, o + i * 5, by simp [Addr.add_lit], fun j u hj f v hv => ?_⟩
        have hj' : l[i + j]? = some u := by
          have hjm : j < m := by
            have h1 := (List.getElem?_eq_some_iff.1 hj).1
            rw [List.length_take] at h1
            omega
          rw [List.getElem?_take_of_lt hjm, List.getElem?_drop] at hj
          exact hj
        have := hcell (i + j) u hj' f v hv
        rwa [Nat.add_mul, ← Nat.add_assoc] at this

theorem chunk_cut {k j I J n : Nat} {es : List Ev} (hI : I = j * k) (hJ : J = min (I + k) n) (hl : es.length = n) : (es.drop I).take (J - I) = chunk k es j := by
  unfold chunk
  rw [← hI]
  by_cases h : I + k ≤ n
  · have e : J - I = k := by omega
    rw [e]
  · have e1 : (es.drop I).length ≤ J - I := by rw [List.length_drop]; omega
    have e2 : (es.drop I).length ≤ k := by rw [List.length_drop]; omega
    rw [List.take_of_length_le e1, List.take_of_length_le e2]
theorem chunk_len (k : Nat) (es : List Ev) (j : Nat) : (chunk k es j).length ≤ k := by unfold chunk; rw [List.length_take]; omega
theorem chunk_count {j k I n N : Nat} (hk : 1 ≤ k) (hI : I = j * k) (hi : I < n) (hn : n ≤ N) : j + 1 ≤ N := by
  have h1 : j * 1 ≤ j * k := Nat.mul_le_mul_left j hk
  rw [← hI] at h1
  omega
theorem wrap_two (a b : Nat) (h : a + b ≤ 100000000) : wrap64 ((a : Int) + (b : Int)) = (a : Int) + (b : Int) := by unfold wrap64; omega
theorem min_two (a b n J : Nat) (h : J = min (a + b) n) : min ((a : Int) + (b : Int)) (n : Int) = (J : Int) := by rw [h]; omega
end Go.Proofs.Ytiockkphciadeaa

/-
  A segment that is cut anywhere behind its head: plain facts.
-/
set_option linter.unusedVariables false
set_option linter.unusedSimpArgs false
namespace Go.Proofs.Ytiockkphciadeaa
open Go.RowKit
open Go.Lib (uvarint)

theorem segOf_more (first k : Nat) (es : List Ev) (W : Nat) : ∀ d, ∃ r, segOf first k es (W + d) = segOf first k es W ++ r
  | 0 => ⟨[], by rw [List.append_nil, Nat.add_zero]⟩
  | d + 1 => by
    obtain ⟨r, h⟩ := segOf_more first k es W d
    refine ⟨r ++ frameOf (chunk k es (W + d)), ?_⟩
    rw [← Nat.add_assoc, segOf_succ, h, List.append_assoc]
theorem seg_cut {first k J K W : Nat} {es : List Ev} (hf : first ≤ 4611686018427387904) (hk : 1 ≤ k) (hk9 : k ≤ 100) (hok : ∀ e ∈ es, e.ok) (hJ : (J - 1) * k < es.length ∨ J = 0) (hW : W ≤ J)
    (h1 : (segOf first k es W).length ≤ K) (h2 : W < J → K < (segOf first k es (W + 1)).length) (hK : K ≤ (segOf first k es J).length) :
    scanOf ((segOf first k es J).take K) = (first, es.take (W * k), (segOf first k es W).length, 0) := by
  have hjW : (W - 1) * k < es.length ∨ W = 0 := by
    rcases Nat.eq_zero_or_pos W with h | h
    · exact .inr h
    · rcases hJ with h3 | h3
      · exact .inl (Nat.lt_of_le_of_lt (Nat.mul_le_mul_right k (by omega)) h3)
      · omega
  by_cases hWJ : W < J
  · obtain ⟨post, hp⟩ := segOf_more first k es (W + 1) (J - (W + 1))
    rw [show W + 1 + (J - (W + 1)) = J by omega] at hp
    have hall : segOf first k es J = segOf first k es W ++ (frameOf (chunk k es W) ++ post) := by rw [hp, segOf_succ, List.append_assoc]
    have hd : (segOf first k es J).drop (segOf first k es W).length = frameOf (chunk k es W) ++ post := by rw [hall, List.drop_left]
    have hWk : W * k < es.length := by
      rcases hJ with h3 | h3
      · exact Nat.lt_of_le_of_lt (Nat.mul_le_mul_right k (by omega)) h3
      · omega
    have hev := chunk_evs (j := W) hk hk9 hWk hok
    have hc := row_cut hd hev hK h1
    have hl := segOf_succ first k es W
    have hl2 := congrArg List.length hl
    rw [List.length_append] at hl2
    have hno : (rdFrame ((segOf first k es J).take K) (segOf first k es W).length).2.2 ≠ 0 := fun e => by
      have h3 := hc.1 e
      have h4 := h2 hWJ
      omega
    have ht : (segOf first k es J).take K = segOf first k es W ++ (frameOf (chunk k es W) ++ post).take (K - (segOf first k es W).length) := by
      rw [hall, List.take_append, List.take_of_length_le h1]
    rw [ht] at hno ⊢
    exact scan_seg hf hk hk9 hjW hok hno
  · obtain rfl : W = J := by omega
    have hKe : K = (segOf first k es W).length := by omega
    rw [List.take_of_length_le (by omega)]
    have h := scan_seg (r := []) hf hk hk9 hjW hok (by rw [List.append_nil]; exact rd_end (Nat.le_refl _))
    rwa [List.append_nil] at h
end Go.Proofs.Ytiockkphciadeaa

/-
  SegmentBack: what is packed is unpacked; a segment that is cut anywhere tells the events of the frames that are whole.
-/
set_option linter.unusedVariables false
set_option linter.unusedSimpArgs false
namespace Go.Proofs.Ytiockkphciadeaa
open Go.RowKit
open Go.Lib (byteCells byteCells_length byteCells_append uvarint)

theorem Pack_both (first : Nat) (A : Option Addr) (n c : Nat) (es : List Ev) (w : World) (h : IsEv w A n c es) (hn : n ≤ 1048576) (hok : ∀ x ∈ es, x.ok) (hf : first ≤ 4611686018427387904) :
    Calls Try.prog 42 #[.int .i64 (first : Int), .slice A n c] w fun e w' => ∃ A' m c' r, e = .returned (.tuple #[.slice A' m c', .int .i64 ((r : Nat) : Int)]) ∧ (1 ≤ n → r = 0 ∧ IsB w' A' m c' (sealed (denseOf first es))) ∧ (n = 0 → r = 2) ∧ Below w.heap.size w w' := by
  by_cases h1 : 1 ≤ n
  · refine (Pack_is first A n c es w h h1 hn hok hf).mono ?_
    rintro e w' ⟨A', m, c', rfl, hI, hb⟩
    exact ⟨A', m, c', 0, rfl, fun _ => ⟨rfl, hI⟩, fun h0 => by omega, hb⟩
  · obtain rfl : n = 0 := by omega
    refine (Pack_none first A c w hf).mono ?_
    rintro e w' ⟨rfl, rfl⟩
    exact ⟨none, 0, 0, 2, rfl, fun h0 => by omega, fun _ => rfl, Below.refl _ _⟩
theorem frame_few {f : List Ev} (h : f.length ≤ 5) : (frameOf f).length ≤ 260 := by
  have h1 := encEvs_most f Ev.zero
  have h2 := Lib.uvarint_length64 (x := f.length) (by omega)
  have h3 : (bodyOf f).length ≤ 230 := by unfold bodyOf; rw [List.length_append]; omega
  have h4 := Lib.uvarint_length64 (x := (bodyOf f).length) (by omega)
  rw [frameOf_length]
  omega
theorem segOf_few {first k : Nat} {es : List Ev} (hf : first ≤ 4611686018427387904) (hk : k ≤ 5) : ∀ j, (segOf first k es j).length ≤ 18 + 260 * j
  | 0 => by
    have := headOf_most (first := first) (by omega)
    show (headOf first ++ []).length ≤ _
    rw [List.append_nil]
    omega
  | j + 1 => by
    have h1 := segOf_few (first := first) (k := k) (es := es) hf hk j
    have h2 := frame_few (f := chunk k es j) (by unfold chunk; rw [List.length_take]; omega)
    rw [segOf_succ, List.length_append]
    omega
def SegEnds (f k : Nat) (es : List Ev) (j : Nat) (E : List Nat) : Prop := E.length = j + 1 ∧ ∀ i, i ≤ j → E[i]? = some (segOf f k es i).length
theorem segEnds_start (f k : Nat) (es : List Ev) (m : Nat) (h : m = (headOf f).length) : SegEnds f k es 0 [m] := by
  refine ⟨rfl, fun i hi => ?_⟩
  obtain rfl : i = 0 := by omega
  subst h
  show some _ = some (headOf f ++ []).length
  rw [List.append_nil]
theorem segEnds_step {f k : Nat} {es : List Ev} {j : Nat} {E : List Nat} (h : SegEnds f k es j E) (m : Nat) (hm : m = (segOf f k es (j + 1)).length) : SegEnds f k es (j + 1) (E ++ [m]) := by
  refine ⟨by rw [List.length_append, h.1]; rfl, fun i hi => ?_⟩
  by_cases hj : i ≤ j
  · rw [List.getElem?_append_left (by rw [h.1]; omega)]
    exact h.2 i hj
  · obtain rfl : i = j + 1 := by omega
    rw [List.getElem?_append_right (by rw [h.1]; omega), h.1]
    subst hm
    simp
theorem owni_num (w : World) (t : TypeId) (x : Nat) (ht : t = 3) : OwnI (w.alloc (.cells #[.int .i64 (x : Int)] t)) w.heap.size (.slice (some ⟨w.heap.size, 0, none⟩) 1 1) [x] := by
  subst ht
  exact ⟨rfl, .inr ⟨w.heap.size, 1, _, rfl, Nat.le_refl _, heap_alloc_new _ _, Nat.le_refl _, by unfold maxLen; omega, rfl, rfl⟩⟩
theorem IsEv.front {w : World} {A : Option Addr} {n c : Nat} {l : List Ev} (h : IsEv w A n c l) {m : Nat} (hm : m ≤ n) : IsEv w A m c (l.take m) := by
  obtain ⟨hl, hc, hnone, hsrc⟩ := h
  refine ⟨by rw [List.length_take]; omega, by omega, hnone, ?_⟩
  rcases hsrc with rfl | ⟨b, o, rfl, hcell⟩
  · exact .inl (by simp)
  · refine .inr ⟨b, o, rfl, fun j u hj f v hv => ?_⟩
    have hjm : j < m := by
      have h1 := (List.getElem?_eq_some_iff.1 hj).1
      rw [List.length_take] at h1
      omega
    rw [List.getElem?_take_of_lt hjm] at hj
    exact hcell j u hj f v hv
theorem min_mul0 {W K n J : Nat} (h : J = min (W * K) n) : min ((W : Int) * (K : Int)) (n : Int) = (J : Int) := by
  rw [← Int.natCast_mul, h]
  omega
theorem min_mul {W K n J : Nat} (h : J = min (W * K) n) (hb : W * K ≤ 300 * 5) : min (wrap64 ((W : Int) * (K : Int))) (n : Int) = (J : Int) := by
  have e : wrap64 ((W : Int) * (K : Int)) = (W : Int) * (K : Int) := by
    rw [← Int.natCast_mul]
    unfold wrap64
    omega
  rw [e]
  exact min_mul0 h
theorem min_to {W K n J : Nat} (h : J = min (W * K) n) : (min ((W : Int) * (K : Int)) (n : Int)).toNat = J := by
  rw [min_mul0 h, Int.toNat_natCast]
theorem OwnI.mono {w : World} {base base' : Nat} {v : Value} {E : List Nat} (h : OwnI w base v E) (hb : base' ≤ base) : OwnI w base' v E := by
  refine ⟨h.1, ?_⟩
  rcases h.2 with hn | ⟨g, cap, cur, hv, hbg, hr⟩
  · exact .inl hn
  · exact .inr ⟨g, cap, cur, hv, Nat.le_trans hb hbg, hr⟩
set_option maxRecDepth 100000 in
set_option maxHeartbeats 4000000 in
theorem sgback_walk (x : Int) (A : Option Addr) (n c : Nat) (es : List Ev) (ea ct : Int) (B : Option Addr) (m d : Nat) (b : List UInt8) (w : World) (hE : IsEv w A n c es) (hok : ∀ e ∈ es, e.ok) (hB : IsB w B m d b) (hx : In64 x) (hea : In64 ea) (hct : In64 ct) (hn : n ≤ maxLen) (hm : m ≤ maxLen) :
    Calls Try.prog 7 #[.int .i64 x, .slice A n c, .int .i64 ea, .int .i64 ct, .slice B m d] w fun e w' => e = .returned (.bool true) ∧ Below w.heap.size w w' := by
  unfold maxLen at hn hm
  by_cases h300 : 300 < n
  · have d1 : decide ((300 : Int) < (n : Int)) = true := decide_eq_true (by omega)
    clear hE hB
    go_enter Try.func7, Try.ntmps7
    go_wp2_with fail
    refine (awake4_any _).mono ?_
    rintro e w9 ⟨rfl, hb9⟩
    go_wp2_with fail
    go_ret
    exact ⟨rfl, hb9⟩
  have d1 : decide ((300 : Int) < (n : Int)) = false := decide_eq_false (by omega)
  by_cases h2000 : 2000 < m
  · have d2 : decide ((2000 : Int) < (m : Int)) = true := decide_eq_true (by omega)
    clear hE hB
    go_enter Try.func7, Try.ntmps7
    go_wp2_with fail
    refine (awake4_any _).mono ?_
    rintro e w9 ⟨rfl, hb9⟩
    go_wp2_with fail
    go_ret
    exact ⟨rfl, hb9⟩
  have d2 : decide ((2000 : Int) < (m : Int)) = false := decide_eq_false (by omega)
  have hlen := hE.len
  have HE := Lib.hid hE
  have HB := Lib.hid hB
  have HOK := Lib.hid hok
  have HLEN := Lib.hid hlen
  have HS := Lib.hid (seal_any B m d b w hB (by omega))
  have hbl := hB.len
  have hm9 : m ≤ 2000 := by omega
  have hn9 : n ≤ 300 := by omega
  clear hE hok hB hlen h300 h2000
  go_enter Try.func7, Try.ntmps7
  go_wp2_with fail
  refine HS.out.mono ?_
  rintro e w1 ⟨v, rfl, ho, hb1⟩
  obtain ⟨A1, m1, c1, rfl, hI1⟩ := own_slice ho
  have hm1 := hI1.len
  rw [List.length_append, hbl] at hm1
  have hs4 : (sumBytes (crc b)).length = 4 := rfl
  have HU := Lib.hid (Unpack_any A1 m1 c1 _ w1 hI1 (by omega))
  have HB1 := Lib.hid hb1
  clear ho hI1 hb1 HS hm1 hs4
  go_wp2_with fail
  refine HU.out.mono ?_
  rintro e w2 ⟨⟨v, rfl, hO⟩, hb2⟩
  have HB2 := Lib.hid (HB1.out.trans (hb2.mono HB1.out.size))
  have hsd := unpackOf_sound (m := b)
  obtain ⟨R, hR⟩ : ∃ R, Hid (unpackOf (sealed b) = R) := ⟨_, rfl⟩
  have hRs : unpackOf (b ++ sumBytes (crc b)) = R := hR.out
  rw [hRs] at hO ⊢
  rw [hR.out] at hsd
  have HO := Lib.hid hO
  have HSD := Lib.hid hsd
  clear hO hsd hb2 HU hRs hR
  go_upto_if 50 with fail
  go_cut [] from 42 to 65 (fun wx => Below w.heap.size w wx)
  case first =>
    by_cases he : R.2.2 = 0
    · obtain ⟨s1, s2, s3, s4, s5⟩ := HSD.out he
      have q1 : ((R.2.2 : Int) == 0) = true := by rw [he]; rfl
      obtain ⟨BX, bx, dx, hvx, hIX, hbx, -⟩ := HO.out.is_
      subst hvx
      have hbxl : bx ≤ 1048576 := by rw [hbx]; exact s3
      have hbx1 : 1 ≤ bx := by rw [hbx]; exact s2
      have HP := Lib.hid (Pack_is R.1 BX bx dx R.2.1 w2 hIX hbx1 hbxl s4 s1)
      have HS5 : Hid (sealed (denseOf R.1 R.2.1) = sealed b) := by show _ = _; rw [← s5]
      clear hIX hbx hbxl hbx1 s1 s2 s3 s4 s5 HSD HO he
      go_wp2_with fail
      refine HP.out.mono ?_
      rintro e w3 ⟨A3, m3, c3, rfl, hI3, hb3⟩
      rw [HS5.out] at hI3
      have HB3 := Lib.hid (HB2.out.trans (hb3.mono HB2.out.size))
      have HS3 := Lib.hid (seal_any B m d b w3 (HB.out.below HB3.out) (by omega))
      have HI3 := Lib.hid hI3
      clear hI3 hb3 HP
      go_wp2_with fail
      refine HS3.out.mono ?_
      rintro e w4 ⟨v4, rfl, ho4, hb4⟩
      obtain ⟨A4, m4, c4, rfl, hI4⟩ := own_slice ho4
      have HB4 := Lib.hid (HB3.out.trans (hb4.mono HB3.out.size))
      have HY := Lib.hid (same_true (HI3.out.below hb4) hI4)
      clear ho4 hI4 hb4 HS3
      go_wp2_with fail
      refine HY.out.mono ?_
      rintro e w5 ⟨rfl, rfl⟩
      go_wp2_with fail
      go_meet
      exact HB4.out
    · have q1 : ((R.2.2 : Int) == 0) = false := beq_eq_false_iff_ne.2 (by omega)
      go_wp2_with fail
      go_meet
      exact HB2.out
  case rest =>
  have HBc := Lib.hid hcut
  clear hcut HB2 HB1 HO HSD
  obtain ⟨f, hf⟩ : ∃ f : Nat, Hid (f = if x < 0 then 0 else (x % 4611686018427387904).toNat) := ⟨_, rfl⟩
  have hf62 : f ≤ 4611686018427387904 := by rw [hf.out]; split <;> omega
  go_upto_if 67 with fail
  go_cut [0] from 66 to 67 (fun s0 wx => s0 = .int .i64 (if x < 0 then 0 else x) ∧ wx = wc)
  case first =>
    by_cases hneg : x < 0
    · have q1 : decide (x < 0) = true := decide_eq_true hneg
      go_wp2_with fail
      go_meet
      exact ⟨by rw [if_pos hneg], rfl⟩
    · have q1 : decide (x < 0) = false := decide_eq_false hneg
      go_wp2_with fail
      go_meet
      exact ⟨by rw [if_neg (show ¬ x < 0 by omega)], rfl⟩
  case rest =>
  obtain ⟨rfl, rfl⟩ := hcut
  have hmod : (if x < 0 then 0 else x).tmod 4611686018427387904 = (f : Int) := by
    rw [hf.out]
    by_cases h : x < 0
    · rw [if_pos h, if_pos h]; rfl
    · rw [if_neg h, if_neg h, Int.tmod_eq_emod_of_nonneg (by omega)]; omega
  have hmod2 : (if x < 0 then 0 else x) % 4611686018427387904 = (f : Int) := by
    rw [hf.out]
    by_cases h : x < 0
    · rw [if_pos h, if_pos h]; rfl
    · rw [if_neg h, if_neg h]; omega
  obtain ⟨x0, hx0⟩ : ∃ x0, (if x < 0 then 0 else x) = x0 := ⟨_, rfl⟩
  rw [hx0] at hmod hmod2 ⊢
  clear hx0
  have hEc := HE.out.below HBc.out
  have HP := Lib.hid (Pack_both f A n c es wc hEc (by omega) HOK.out hf62)
  have hqf : ((f : Int) != (f : Int)) = false := by simp
  have hqf2 : ((f : Int) == (f : Int)) = true := by simp
  have hw1 := HBc.out.size
  clear hEc hmod2
  go_wp2_with fail
  refine HP.out.mono ?_
  rintro e w3 ⟨A3, m3, c3, r3, rfl, hsome, hnone, hb3⟩
  have HSOME := Lib.hid hsome
  have HNONE := Lib.hid hnone
  have HB3 := Lib.hid (HBc.out.trans (hb3.mono hw1))
  clear hsome hnone hb3 HP
  go_upto_if 77 with fail
  go_cut [] from 70 to 99 (fun wx => Below w.heap.size w wx)
  case first =>
    by_cases hn0 : n = 0
    · have hr : r3 = 2 := HNONE.out hn0
      subst hr
      have q1 : (((2 : Nat) : Int) == 0) = false := by decide
      have q2 : decide ((0 : Int) < (n : Int)) = false := decide_eq_false (by omega)
      have q2' : ¬ 0 < n := by omega
      clear HSOME HNONE
      go_wp2_with fail
      go_meet
      exact HB3.out
    · have hn1 : 1 ≤ n := by omega
      obtain ⟨hr, hI3⟩ := HSOME.out hn1
      subst hr
      have q1 : (((0 : Nat) : Int) == 0) = true := by decide
      have hl3 := hI3.len
      have hdm := dense_most f es (by rw [HLEN.out]; exact hn9) hf62
      have hm3 : m3 ≤ 1000000 := by omega
      have HU := Lib.hid (Unpack_is hI3 hm3 (unpackOf_pack hf62 (by rw [HLEN.out]; exact hn1) (by rw [HLEN.out]; omega) HOK.out))
      clear hI3 hl3 hdm HSOME HNONE
      go_wp2_with fail
      refine HU.out.mono ?_
      rintro e w4 ⟨B4, b4, d4, rfl, hE4, hb4⟩
      have HB4 := Lib.hid (HB3.out.trans (hb4.mono HB3.out.size))
      have hl4 := hE4.len
      have HY := Lib.hid (same_evs hE4 (HE.out.below HB4.out) (by rw [← hl4, HLEN.out]; omega) (by omega))
      clear hE4 hb4 hl4 HU
      go_wp2_with fail
      refine HY.out.mono ?_
      rintro e w5 ⟨rfl, hb5⟩
      have HB5 := Lib.hid (HB4.out.trans (hb5.mono HB4.out.size))
      clear hb5 HY
      go_wp2_with fail
      go_meet
      exact HB5.out
  case rest =>
  have HB5 := Lib.hid hcut
  have HH := Lib.hid (Head_any f wc hf62)
  clear hcut HB3 HSOME HNONE
  go_wp2_with fail
  refine HH.out.mono ?_
  rintro e w6 ⟨v, rfl, ho6, hb6⟩
  have hzc := HB5.out.size
  have hB6 := HB5.out.trans (hb6.mono hzc)
  have hz6 := hB6.size
  obtain ⟨r0, rfl, hc0, hr0⟩ := row_of_own ho6 0 rfl
  have hg0 : Hid (∀ b, r0.g = some b → w.heap.size ≤ b) := fun b hb0 => by
    rcases ho6.2 with ⟨hv, _⟩ | ⟨g, cap, cur, hv, hbg, hg, hr⟩
    · have h3 := r0.own; rw [hv] at h3; rw [← h3] at hb0; cases hb0
    · have h3 := r0.own; rw [hv] at h3
      have h4 : some g = r0.g := h3
      rw [← h4] at hb0; injection hb0 with hb0; omega
  obtain ⟨A2, m2, c2, hs2⟩ : ∃ A m c, r0.sl = .slice A m c := ⟨_, _, _, rfl⟩
  rw [hs2]
  have hm2 : m2 = (headOf f).length := by
    have h9 := sl_same hs2
    rw [hc0] at h9
    exact h9
  have hb0 : Below w6.heap.size w6 (w6.alloc (.cells #[.int .i64 (m2 : Int)] 3)) := (Below.refl _ _).alloc (Nat.le_refl _) _
  have HE0 := Lib.hid ((owni_num w6 3 m2 rfl).mono hz6)
  have HR0 := Lib.hid (hr0.away (Away.of_new hb0 (fun _ => False)) (fun _ _ f => f))
  have HC0 := Lib.hid hc0
  have HS2 := Lib.hid hs2
  have HM2 := Lib.hid hm2
  have HB0 := Lib.hid (hB6.trans (hb0.mono hz6))
  have HPk := Lib.hid (pick_any ea 5 w6 (by decide) hea)
  obtain ⟨K, hK⟩ : ∃ K : Nat, Hid (K = 1 + pickOf ea 5) := ⟨_, rfl⟩
  have hKl := pickOf_lt ea (n := 5) (by omega)
  have hK1 : 1 ≤ K := by rw [hK.out]; omega
  have hK5 : K ≤ 5 := by rw [hK.out]; omega
  have hKi : (1 : Int) + (pickOf ea 5 : Int) = (K : Int) := by rw [hK.out]; omega
  clear ho6 hr0 hc0 hs2 hm2 hb0 hb6 HH hB6 hz6 hzc
  go_wp2_with fail
  refine HPk.out.mono ?_
  rintro e w' ⟨rfl, rfl⟩
  go_wp2_with fail
  have hLn : Hid (es.length = n) := HLEN.out
  go_loopw [21, 23, 24] (fun al en q wr => ∃ (j I : Nat) (r : Raw) (A1 : Option Addr) (m1 c1 : Nat) (Ae : Option Addr) (ne ce : Nat) (E : List Nat), q = .int .i64 (I : Int) ∧ Hid (I = j * K) ∧ j ≤ 300 ∧ Hid ((j - 1) * K < n ∨ j = 0) ∧ al = .slice A1 m1 c1 ∧ Hid (r.sl = .slice A1 m1 c1) ∧ FRow wr r ∧ Hid (r.c = (segOf f K es j, 0)) ∧ Hid (∀ b, r.g = some b → w.heap.size ≤ b) ∧
    en = .slice Ae ne ce ∧ OwnI wr w.heap.size (.slice Ae ne ce) E ∧ Hid (SegEnds f K es j E) ∧ Below w.heap.size w wr) (fun _ _ q _ => n + 200 - (intOf q).toNat)
  case atStart => exact ⟨0, 0, r0, A2, m2, c2, _, 1, 1, [m2], rfl, by show _ = _; rw [Nat.zero_mul], by omega, .inr rfl, rfl, HS2.out, HR0.out, by show _ = _; rw [HC0.out]; show (headOf f, 0) = (headOf f ++ [], 0); rw [List.append_nil], hg0, rfl, HE0.out, segEnds_start f K es m2 HM2.out, HB0.out⟩
  case round =>
    clear HR0 HC0 HS2 HM2 HB0 HE0 hg0
    obtain ⟨j, I, r, A1, m1, c1, Ae, ne, ce, E, rfl, hI, hj, hjk, rfl, hsl, hr, hrc, hrg, rfl, hE, hEO, hBr⟩ := hrel
    have hbs := hBr.size
    have hm1 : m1 = (segOf f K es j).length := by
      have h9 := sl_same hsl.out
      rw [hrc.out] at h9
      exact h9
    have hsm := segOf_few (first := f) (k := K) (es := es) hf62 hK5 j
    have hm1b : m1 ≤ 100000 := by omega
    have HM1 := Lib.hid hm1
    clear hm1 hsm
    by_cases hi : I < n
    · have hd : decide ((I : Int) < (n : Int)) = true := decide_eq_true (by omega)
      obtain ⟨J, hJ⟩ : ∃ J : Nat, Hid (J = min (I + K) n) := ⟨_, rfl⟩
      have hJ1 : I + 1 ≤ J := by rw [hJ.out]; omega
      have hJn : J ≤ n := by rw [hJ.out]; omega
      have hmin := min_two I K n J hJ.out
      have hcut := (HE.out.below hBr).cut (i := I) (m := J - I) (by omega)
      have hcapn := HE.out.cap
      rw [if_neg (show ¬ c = I by omega)] at hcut
      have hch := chunk_cut hI.out hJ.out HLEN.out
      rw [hch] at hcut
      have hev := chunk_evs (j := j) hK1 (by omega) (by rw [← hI.out, HLEN.out]; exact hi) HOK.out
      have hcl := hcut.len
      have hM1 : 1 ≤ J - I := by omega
      have hM2 : J - I ≤ 4096 := by omega
      have hF := Frame_any _ (J - I) (c - I) (chunk K es j) wr hcut hM1 hM2 hev.ok
      have hfm := frame_few (Nat.le_trans (chunk_len K es j) hK5)
      have HF := Lib.hid hF
      have hjk2 : Hid ((j + 1 - 1) * K < n ∨ j + 1 = 0) := .inl (by rw [show j + 1 - 1 = j by omega, ← hI.out]; exact hi)
      have hI2 : Hid (I + K = (j + 1) * K) := by show _ = _; rw [Nat.add_mul, Nat.one_mul, hI.out]
      have hj2 := chunk_count hK1 hI.out hi hn9
      have HR := Lib.hid hr
      have HEI := Lib.hid hE
      have HBr := Lib.hid hBr
      clear hcut hch hev hcl hF hr hE hBr
      go_wp2_with fail
      refine HF.out.mono ?_
      rintro e w3 ⟨v, rfl, ho3, hb3⟩
      obtain ⟨A3, m3, c3, rfl, hI3⟩ := own_slice ho3
      have hm3 := hI3.len
      have hr3 := HR.out.away (Away.of_new hb3 (fun _ => False)) (fun _ _ f => f)
      have hE3 := HEI.out.below hb3
      obtain ⟨v', w4, hap, g, cap, rfl, hrow, hg, hgr⟩ := rowB hr3 hI3 (by rw [hrc.out]; show (segOf f K es j).length + m3 ≤ _; rw [← HM1.out]; omega) A1 m1 c1 hsl.out 26
      have hag := Away.of_grown hgr
      have hE4 := hE3.away hag fun b hb e => by
        obtain ⟨cs, hcs, _⟩ := hE3.type hb
        obtain ⟨cs', hcs'⟩ := row_type hr3 e
        rw [hcs] at hcs'; simp at hcs'
      have hB4 := (HBr.out.trans (hb3.mono hbs)).trans (hag.below (B := w.heap.size) (Nat.le_trans hbs hb3.size) fun b hb => hrg.out b hb)
      have hz4 := hB4.size
      have hz3 := hb3.size
      have hg2 : Hid (∀ b, (⟨g, cap, (r.c.1 ++ frameOf (chunk K es j), r.c.2)⟩ : Raw).g = some b → w.heap.size ≤ b) := fun b hb => by
        have hb : g = some b := hb
        rcases hg with e | e
        · rw [e] at hb; exact hrg.out b hb
        · rw [e] at hb; injection hb with hb; omega
      have hsl2 : Hid (Raw.sl ⟨g, cap, (r.c.1 ++ frameOf (chunk K es j), r.c.2)⟩ = .slice (g.map fun b => ⟨b, 0, none⟩) (m1 + m3) cap) := by
        show _ = _
        unfold Raw.sl
        rw [List.length_append, hm3, ← sl_same hsl.out]
      have hrc2 : Hid ((⟨g, cap, (r.c.1 ++ frameOf (chunk K es j), r.c.2)⟩ : Raw).c = (segOf f K es (j + 1), 0)) := by
        show _ = _
        rw [segOf_succ]
        show (r.c.1 ++ _, r.c.2) = _
        rw [hrc.out]
      have hmm : m1 + m3 = (segOf f K es (j + 1)).length := by rw [segOf_succ, List.length_append, hm3, HM1.out]
      have hEO2 : Hid (SegEnds f K es (j + 1) (E ++ [m1 + m3])) := segEnds_step hEO.out _ hmm
      have hb5 : Below w4.heap.size w4 (w4.alloc (.cells #[.int .i64 ((m1 + m3 : Nat) : Int)] 3)) := (Below.refl _ _).alloc (Nat.le_refl _) _
      have hz5 := hb5.size
      have hc5 := heap_alloc_new w4 (.cells #[.int .i64 ((m1 + m3 : Nat) : Int)] 3)
      obtain ⟨v6, w6', hap6, A6, c6, rfl, hE6, hA6⟩ := oi_append (hE4.below hb5) (Nat.le_trans hz4 hz5) 43 (m1 + m3) hc5 (by rw [hEO.out.1]; omega)
      have hr6 := (hrow.away (Away.of_new hb5 (fun _ => False)) (fun _ _ f => f)).away hA6 fun b hb e => by
        obtain ⟨cs, hcs, _⟩ := (hE4.below hb5).type e
        obtain ⟨cs', hcs'⟩ := row_type (hrow.away (Away.of_new hb5 (fun _ => False)) (fun _ _ f => f)) hb
        rw [hcs] at hcs'; simp at hcs'
      have hB6 := (hB4.trans (hb5.mono hz4)).trans (hA6.below (B := w.heap.size) (Nat.le_trans hz4 hz5) fun b e => ((hE4.below hb5).type e).choose_spec.2)
      have HROW := Lib.hid hr6
      have HE6 := Lib.hid hE6
      have HB6 := Lib.hid hB6
      clear ho3 hI3 hr3 hrow hg hgr hag hb3 hB4 hm3 hmm HF hE3 hE4 hb5 hc5 hE6 hA6 hr6 hB6 hz3 hz4 hz5 HR HEI
      go_wp2_with (at_builtin; first
        | (refine wpList_run _ rfl _ _ 26 rfl (R := fun v' w' => .slice (g.map fun b => ⟨b, 0, none⟩) (m1 + m3) cap = v' ∧ w4 = w') ⟨_, _, hap, rfl, rfl⟩ ?_; rintro v' w' ⟨rfl, rfl⟩)
        | (refine wpList_run _ rfl _ _ 43 rfl (R := fun v' w' => .slice A6 (ne + 1) c6 = v' ∧ w6' = w') ⟨_, _, hap6, rfl, rfl⟩ ?_; rintro v' w' ⟨rfl, rfl⟩))
      go_roundw
      case rel => exact ⟨j + 1, I + K, ⟨g, cap, (r.c.1 ++ frameOf (chunk K es j), r.c.2)⟩, _, _, _, A6, ne + 1, c6, E ++ [m1 + m3], by rw [Int.natCast_add], hI2, hj2, hjk2, rfl, hsl2, HROW.out, hrc2, hg2, rfl, HE6.out, hEO2, HB6.out⟩
      case measure => simp [intOf]; omega
    · have hd : decide ((I : Int) < (n : Int)) = false := decide_eq_false (by omega)
      have hIB : IsB wr A1 m1 c1 (segOf f K es j) := by
        have h := sl_isB hr hsl.out
        rw [hrc.out] at h
        exact h
      have hfin : Hid ((j - 1) * K < es.length ∨ j = 0) := by rw [← HLEN.out] at hjk; exact hjk
      have hall : Hid (es.length ≤ j * K) := by show _ ≤ _; rw [HLEN.out, ← hI.out]; omega
      have hnE : ne = E.length := by
        obtain ⟨A', c', hv, _⟩ := hE.form
        simp only [Value.slice.injEq] at hv
        exact hv.2.1
      have hnj : Hid (ne = j + 1) := by show _ = _; rw [hnE, hEO.out.1]
      have hne0 : 0 < ne := by rw [hnj.out]; omega
      have hne9 : ne ≤ 301 := by rw [hnj.out]; omega
      clear hnE
      obtain ⟨m0, hm0⟩ : ∃ m0, Hid (m0 = (segOf f K es 0).length) := ⟨_, rfl⟩
      have hE0 : E[0]? = some m0 := by rw [hm0.out]; exact hEO.out.2 0 (by omega)
      obtain ⟨ge, rfl, hc0⟩ := hE.cell hE0
      have hm01 : m0 ≤ m1 := by
        obtain ⟨s, hs⟩ := segOf_more f K es 0 j
        rw [Nat.zero_add] at hs
        have h := congrArg List.length hs
        rw [List.length_append] at h
        rw [hm0.out, HM1.out]; omega
      obtain ⟨P, hP⟩ : ∃ P : Nat, Hid (P = m1 - m0 + 1) := ⟨_, rfl⟩
      have hPp : P ≤ 1000000 := by rw [hP.out]; omega
      have hP1 : 1 ≤ P := by rw [hP.out]; omega
      have hPi : IntKind.i64.wrap (IntKind.i64.wrap ((m1 : Int) - (m0 : Int)) + 1) = (P : Int) := by rw [hP.out, IntKind.wrap_i64, IntKind.wrap_i64]; omega
      have hPk := pickOf_lt ct (n := P) (by omega)
      obtain ⟨Q, hQ⟩ : ∃ Q : Nat, Hid (Q = pickOf ct P) := ⟨_, rfl⟩
      have hQP : Q < P := by rw [hQ.out]; exact hPk
      obtain ⟨Kc, hKc⟩ : ∃ Kc : Nat, Hid (Kc = m0 + Q) := ⟨_, rfl⟩
      have hKm : Kc ≤ m1 := by rw [hKc.out, hQ.out]; have := hP.out; omega
      have hK0 : m0 ≤ Kc := by rw [hKc.out]; omega
      have hKi2 : IntKind.i64.wrap ((m0 : Int) + (Q : Int)) = (Kc : Int) := by rw [hKc.out, IntKind.wrap_i64]; omega
      have hKi3 : wrap64 ((m0 : Int) + (Q : Int)) = (Kc : Int) := by rw [hKc.out]; unfold wrap64; omega
      have hpk := fun u : World => pick_any ct P u (by omega) hct
      rw [← hQ.out] at hpk
      have HPK := Lib.hid hpk
      have HIB := Lib.hid hIB
      have HOI := Lib.hid hE
      have HBr := Lib.hid hBr
      clear hIB hE hBr hr hsl hrc hrg hm01 hPk hpk hE0
      go_wp2_with fail
      refine wp_region_held_drew (S := fun w' => Below wr.heap.size wr w') (by kernel_rfl) ((Below.refl _ wr).drew) (fun hHeld => ?_)
      have hBase : Below wr.heap.size wr wr.drew := (Below.refl _ wr).drew
      generalize wr.drew = wd at hBase hHeld ⊢
      refine wpAnyH_take (i := 0) (v := ?_) rfl (by kernel_rfl) (by kernel_rfl) (by kernel_rfl) (fun _ _ _ h => h) (Or.inl ⟨by rfl, ?_⟩) hHeld ?_
      rotate_left
      · (intro w hSw; have z0 := cell_below hSw _ _ hc0; go_simp <;> rfl)
      simp only [Act.put, List.getElem_toArray, List.getElem_cons_zero, List.getElem_cons_succ, List.setIfInBounds_toArray, List.set_cons_zero, List.set_cons_succ]
      refine wpAnyH_take (i := 1) (v := ?_) rfl (by kernel_rfl) (by kernel_rfl) (by kernel_rfl) (fun _ _ _ h => h) (Or.inl ⟨by rfl, ?_⟩) hHeld ?_
      rotate_left
      · (intro w hSw; have z0 := cell_below hSw _ _ hc0; go_simp <;> rfl)
      simp only [Act.put, List.getElem_toArray, List.getElem_cons_zero, List.getElem_cons_succ, List.setIfInBounds_toArray, List.set_cons_zero, List.set_cons_succ]
      refine wpAnyH_take (i := 2) (v := ?_) rfl (by kernel_rfl) (by kernel_rfl) (by kernel_rfl) (fun _ _ _ h => h) (Or.inl ⟨by rfl, ?_⟩) hHeld ?_
      rotate_left
      · (intro w hSw; have z0 := cell_below hSw _ _ hc0; go_simp <;> rfl)
      simp only [Act.put, List.getElem_toArray, List.getElem_cons_zero, List.getElem_cons_succ, List.setIfInBounds_toArray, List.set_cons_zero, List.set_cons_succ]
      refine wpAnyH_take (i := 3) (v := ?_) rfl (by kernel_rfl) (by kernel_rfl) (by kernel_rfl) (fun _ _ _ h => h) (Or.inl ⟨by rfl, ?_⟩) hHeld ?_
      rotate_left
      · (intro w hSw; have z0 := cell_below hSw _ _ hc0; go_simp <;> rfl)
      simp only [Act.put, List.getElem_toArray, List.getElem_cons_zero, List.getElem_cons_succ, List.setIfInBounds_toArray, List.set_cons_zero, List.set_cons_succ]
      refine wpAnyH_take (i := 4) (v := ?_) rfl (by kernel_rfl) (by kernel_rfl) (by kernel_rfl) (fun _ _ _ h => h) (Or.inl ⟨by rfl, ?_⟩) hHeld ?_
      rotate_left
      · (intro w hSw; have z0 := cell_below hSw _ _ hc0; go_simp <;> rfl)
      simp only [Act.put, List.getElem_toArray, List.getElem_cons_zero, List.getElem_cons_succ, List.setIfInBounds_toArray, List.set_cons_zero, List.set_cons_succ]
      refine wpAnyH_take (i := 5) (v := ?_) rfl (by kernel_rfl) (by kernel_rfl) (by kernel_rfl) (fun _ _ _ h => h) (Or.inl ⟨by rfl, ?_⟩) hHeld ?_
      rotate_left
      · (intro w hSw; have z0 := cell_below hSw _ _ hc0; go_simp <;> rfl)
      simp only [Act.put, List.getElem_toArray, List.getElem_cons_zero, List.getElem_cons_succ, List.setIfInBounds_toArray, List.set_cons_zero, List.set_cons_succ]
      refine wpAnyH_take (i := 6) (v := ?_) rfl (by kernel_rfl) (by kernel_rfl) (by kernel_rfl) (fun _ _ _ h => h) (Or.inl ⟨by rfl, ?_⟩) hHeld ?_
      rotate_left
      · (intro w hSw; have z0 := cell_below hSw _ _ hc0; go_simp <;> rfl)
      simp only [Act.put, List.getElem_toArray, List.getElem_cons_zero, List.getElem_cons_succ, List.setIfInBounds_toArray, List.set_cons_zero, List.set_cons_succ]
      refine wpAnyH_take (i := 7) (v := ?_) rfl (by kernel_rfl) (by kernel_rfl) (by kernel_rfl) (fun _ _ _ h => h) (Or.inl ⟨by rfl, ?_⟩) hHeld ?_
      rotate_left
      · (intro w hSw; have z0 := cell_below hSw _ _ hc0; go_simp <;> rfl)
      simp only [Act.put, List.getElem_toArray, List.getElem_cons_zero, List.getElem_cons_succ, List.setIfInBounds_toArray, List.set_cons_zero, List.set_cons_succ]
      refine wpAnyH_take (i := 8) (v := ?_) rfl (by kernel_rfl) (by kernel_rfl) (by kernel_rfl) (fun _ _ _ h => h) (Or.inl ⟨by rfl, ?_⟩) hHeld ?_
      rotate_left
      · (intro w hSw; have z0 := cell_below hSw _ _ hc0; go_simp <;> rfl)
      simp only [Act.put, List.getElem_toArray, List.getElem_cons_zero, List.getElem_cons_succ, List.setIfInBounds_toArray, List.set_cons_zero, List.set_cons_succ]
      refine wpAnyH_take (i := 9) (v := ?_) rfl (by kernel_rfl) (by kernel_rfl) (by kernel_rfl) (fun _ _ _ h => h) (Or.inl ⟨by rfl, ?_⟩) hHeld ?_
      rotate_left
      · (intro w hSw; have z0 := cell_below hSw _ _ hc0; go_simp <;> rfl)
      simp only [Act.put, List.getElem_toArray, List.getElem_cons_zero, List.getElem_cons_succ, List.setIfInBounds_toArray, List.set_cons_zero, List.set_cons_succ]
      refine wpAnyH_take (i := 10) (v := ?_) rfl (by kernel_rfl) (by kernel_rfl) (by kernel_rfl) (fun _ _ _ h => h) (Or.inl ⟨by rfl, ?_⟩) hHeld ?_
      rotate_left
      · (intro w hSw; have z0 := cell_below hSw _ _ hc0; go_simp <;> rfl)
      simp only [Act.put, List.getElem_toArray, List.getElem_cons_zero, List.getElem_cons_succ, List.setIfInBounds_toArray, List.set_cons_zero, List.set_cons_succ]
      refine wpAnyH_ready (rs := [11]) (by kernel_rfl) (by simp) ?_
      refine AllReadyH.cons rfl (fun K hK => ?_) AllReadyH.nil
      go_simp
      refine (HPK.out wd).mono ?_
      rintro e w2 ⟨rfl, rfl⟩
      dsimp only
      refine hK.out _ _ hBase (fun hHeld => ?_)
      clear hK K
      try simp only [Act.put, List.getElem_toArray, List.getElem_cons_zero, List.getElem_cons_succ, List.setIfInBounds_toArray, List.set_cons_zero, List.set_cons_succ]
      refine wpAnyH_ready (rs := [12]) (by kernel_rfl) (by simp) ?_
      refine AllReadyH.cons rfl (fun K hK => ?_) AllReadyH.nil
      go_simp
      refine hK.out _ _ hBase (fun hHeld => ?_)
      clear hK K
      try simp only [Act.put, List.getElem_toArray, List.getElem_cons_zero, List.getElem_cons_succ, List.setIfInBounds_toArray, List.set_cons_zero, List.set_cons_succ]
      refine wpAnyH_ready (rs := [13]) (by kernel_rfl) (by simp) ?_
      refine AllReadyH.cons rfl (fun K hK => ?_) AllReadyH.nil
      go_simp
      refine hK.out _ _ hBase (fun hHeld => ?_)
      clear hK K
      try simp only [Act.put, List.getElem_toArray, List.getElem_cons_zero, List.getElem_cons_succ, List.setIfInBounds_toArray, List.set_cons_zero, List.set_cons_succ]
      refine wpAnyH_done (by kernel_rfl) ?_ _
      have HBd := Lib.hid (HBr.out.trans (hBase.mono HBr.out.size))
      have HId := Lib.hid (HIB.out.below hBase)
      have HOd := Lib.hid (HOI.out.below hBase)
      clear hBase hHeld hc0 HPK HIB HOI
      go_wp2_with fail
      clear hPi hKi2 hKi3 hmod hQP
      go_loopw [28, 29] (fun wh q wq => ∃ i W : Nat, q = .int .i64 (i : Int) ∧ i ≤ ne ∧ wh = .int .i64 (W : Int) ∧ Hid (W ≤ j ∧ (segOf f K es W).length ≤ Kc ∧ ∀ t, W < t → t < i → Kc < (segOf f K es t).length) ∧ Below wd.heap.size wd wq) (fun _ q _ => ne - (intOf q).toNat)
      case atStart => exact ⟨0, 0, rfl, by omega, rfl, ⟨by omega, by rw [← hm0.out]; exact hK0, fun t h1 h2 => by omega⟩, Below.refl _ _⟩
      case round =>
        obtain ⟨i, W, rfl, hi2, rfl, hW, hBq⟩ := hrel
        have hzd := HBd.out.size
        by_cases hin : i < ne
        · have hd2 : decide ((i : Int) < (ne : Int)) = true := decide_eq_true (by omega)
          have q0 : (0 : Int) ≤ (i : Int) := by omega
          have q1 : (i : Int) < (ne : Int) := by omega
          obtain ⟨z, hz⟩ : ∃ z, Hid (z = (segOf f K es i).length) := ⟨_, rfl⟩
          have hEi : E[i]? = some z := by rw [hz.out]; exact hEO.out.2 i (by have := hnj.out; omega)
          obtain ⟨g', hg', hci⟩ := (HOd.out.below hBq).cell hEi
          obtain rfl : ge = g' := by simp at hg'; exact hg'
          have HBq := Lib.hid hBq
          clear hEi hg' hBq
          by_cases hzk : z ≤ Kc
          · have hd3 : decide ((z : Int) ≤ (Kc : Int)) = true := decide_eq_true (by omega)
            have hW2 : Hid (i ≤ j ∧ (segOf f K es i).length ≤ Kc ∧ ∀ t, i < t → t < i + 1 → Kc < (segOf f K es t).length) := ⟨by have := hnj.out; omega, by rw [← hz.out]; exact hzk, fun t h1 h2 => by omega⟩
            clear hW
            go_wp2_with fail
            go_roundw
            case rel => exact ⟨i + 1, i, by go_num, by omega, rfl, hW2, HBq.out⟩
            case measure => simp [intOf]; omega
          · have hd3 : decide ((z : Int) ≤ (Kc : Int)) = false := decide_eq_false (by omega)
            have hW2 : Hid (W ≤ j ∧ (segOf f K es W).length ≤ Kc ∧ ∀ t, W < t → t < i + 1 → Kc < (segOf f K es t).length) := ⟨hW.out.1, hW.out.2.1, fun t h1 h2 => by
              by_cases h3 : t < i
              · exact hW.out.2.2 t h1 h3
              · obtain rfl : t = i := by omega
                rw [← hz.out]; omega⟩
            clear hW
            go_wp2_with fail
            go_roundw
            case rel => exact ⟨i + 1, W, by go_num, by omega, rfl, hW2, HBq.out⟩
            case measure => simp [intOf]; omega
        · have hd2 : decide ((i : Int) < (ne : Int)) = false := decide_eq_false (by omega)
          obtain ⟨z, hz⟩ : ∃ z, Hid (z = (segOf f K es W).length) := ⟨_, rfl⟩
          have hWj : W ≤ j := hW.out.1
          have hsc := seg_cut (K := Kc) hf62 hK1 (Nat.le_trans hK5 (by decide)) HOK.out hfin.out hWj hW.out.2.1 (fun h => hW.out.2.2 (W + 1) (Nat.lt_succ_self _) (by have := hnj.out; omega)) (by rw [← HM1.out]; exact hKm)
          rw [← hz.out] at hsc
          have HSC := Lib.hid (Scan_is ((HId.out.below hBq).take' hKm) (Nat.le_trans hKm (Nat.le_trans hm1b (by decide))) hsc)
          have hEw : E[W]? = some z := by rw [hz.out]; exact hEO.out.2 W hWj
          have HBq := Lib.hid (HBd.out.trans (hBq.mono hzd))
          have HOq := Lib.hid (HOd.out.below hBq)
          have hcA := (HId.out).cap
          have hqz : ((z : Int) == (z : Int)) = true := by simp
          obtain ⟨J, hJ⟩ : ∃ J : Nat, Hid (J = min (W * K) n) := ⟨_, rfl⟩
          have hWK : W * K ≤ 300 * 5 := Nat.mul_le_mul (by omega) hK5
          have hJn : J ≤ n := by rw [hJ.out]; exact Nat.min_le_right _ _
          have hJt := min_to hJ.out
          have hJi := min_mul hJ.out (by exact hWK)
          have hcE := HE.out.cap
          have hJ0 : (0 : Int) ≤ (J : Int) := Int.natCast_nonneg _
          have hJc : (J : Int) ≤ (c : Int) := Int.ofNat_le.2 (Nat.le_trans hJn hcE)
          have hWn : W < ne := by rw [hnj.out]; exact Nat.lt_succ_of_le hWj
          have hW0 : (0 : Int) ≤ (W : Int) := Int.natCast_nonneg _
          have hW1 : (W : Int) < (ne : Int) := Int.ofNat_lt.2 hWn
          have hM0 : (0 : Int) ≤ min ((W : Int) * (K : Int)) (n : Int) := by rw [min_mul0 hJ.out]; exact hJ0
          have hMc : min ((W : Int) * (K : Int)) (n : Int) ≤ (c : Int) := by rw [min_mul0 hJ.out]; exact hJc
          clear hW hsc hBq
          go_wp2_with fail
          refine HSC.out.mono ?_
          rintro e w7 ⟨B7, b7, d7, rfl, hE7, hb7⟩
          have HB7 := Lib.hid (HBq.out.trans (hb7.mono HBq.out.size))
          obtain ⟨g', hg', hcw⟩ := (HOq.out.below hb7).cell hEw
          obtain rfl : ge = g' := by simp at hg'; exact hg'
          have HE7 := Lib.hid hE7
          clear hE7 hb7 HSC hg' hEw HOq
          have HE9 := Lib.hid (HE.out.below HB7.out)
          clear hcA
          go_wp2_with fail
          have hfr := HE9.out.front hJn
          have htk : es.take (W * K) = es.take J := by
            rw [hJ.out]
            rcases Nat.le_total (W * K) n with h | h
            · rw [Nat.min_eq_left h]
            · rw [Nat.min_eq_right h, List.take_of_length_le (by rw [HLEN.out]; exact h), List.take_of_length_le (by rw [HLEN.out]; exact Nat.le_refl _)]
          have hE7 := HE7.out
          rw [htk] at hE7
          have hb7l := hE7.len
          rw [List.length_take] at hb7l
          have hb7m : b7 ≤ 1000000 := by rw [← hb7l, HLEN.out]; exact Nat.le_trans (Nat.min_le_right _ _) (Nat.le_trans hn9 (by decide))
          have hJm : J ≤ 1000000 := Nat.le_trans hJn (Nat.le_trans hn9 (by decide))
          refine (same_evs hE7 hfr hb7m hJm).mono ?_
          rintro e w8 ⟨rfl, hb8⟩
          have HB8 := Lib.hid (HB7.out.trans (hb8.mono HB7.out.size))
          clear hfr hE7 htk hb7l hb8
          go_wp2_with fail
          refine (awake4_any _).mono ?_
          rintro e w9 ⟨rfl, hb9⟩
          go_wp2_with fail
          go_ret
          exact ⟨rfl, HB8.out.trans (hb9.mono HB8.out.size)⟩
end Go.Proofs.Ytiockkphciadeaa
