/-
  The definition's calls: bytes behind bytes; numbers, laid out.
-/
import Derived.Test.YtiockkphciadeaaMine
import Derived.Laws.CopyOwn
import Derived.Deep.OwnRows
import Derived.Lib.SlBuf
import Derived.Laws.MakeOwn
set_option linter.unusedSimpArgs false
namespace Go.Proofs.Ytiockkphciadeaa
open Go.RowKit
open Go.Lib (byteCells byteCells_length byteCells_append uvarint uvarint_small uvarint_big tailV)
set_option linter.unusedVariables false

theorem IsB.from_ {w : World} {A : Option Addr} {n c : Nat} {l : List UInt8} (h : IsB w A n c l) (hp : 0 < (byteCells l).length) : ∃ ad, A = some ad ∧ ∀ j v, (byteCells l)[j]? = some v → w.cell? (ad.add j) = some v := by
  rcases h.src with rfl | ⟨b, o, hA, hc⟩
  · simp [byteCells] at hp
  · refine ⟨_, hA, fun j v hj => ?_⟩
    rw [byteCells, List.getElem?_map] at hj
    obtain ⟨x, hx, rfl⟩ := Option.map_eq_some_iff.1 hj
    rw [Addr.add_lit]
    exact hc j x hx
theorem sizeByte : ∀ w, (Go.sizeOf 5).run Try.prog w = .ok 1 w := fun w => by kernel_rfl
theorem sizeByte' : (Try.prog.info? 5).map (·.size) = some 1 := by kernel_rfl

theorem splice_two {α : Type} (Z X1 X2 : List α) (n m : Nat) (h1 : X1.length = n) (h2 : X2.length = m) (hZ : Z.length = n + m) : splice (splice Z 0 X1) n X2 = X1 ++ X2 := by
  subst h1; subst h2
  unfold splice
  have e1 : Z.take 0 ++ (X1 ++ Z.drop (0 + X1.length)) = X1 ++ Z.drop X1.length := by simp
  rw [e1]
  have e2 : (X1 ++ Z.drop X1.length).take X1.length = X1 := by simp
  have e3 : (X1 ++ Z.drop X1.length).drop (X1.length + X2.length) = [] := by
    apply List.drop_eq_nil_of_le; simp; omega
  rw [e2, e3, List.append_nil]

set_option maxRecDepth 100000 in
set_option maxHeartbeats 400000 in
theorem after_any (A : Option Addr) (n c : Nat) (la : List UInt8) (B : Option Addr) (m d : Nat) (lb : List UInt8) (w : World) (hA : IsB w A n c la) (hB : IsB w B m d lb) (hn : n ≤ 35184372088832) (hm : m ≤ 35184372088832) :
    Calls Try.prog 87 #[.slice A n c, .slice B m d] w fun e w' =>
      ∃ g k, e = .returned (.slice (some ⟨g, 0, none⟩) (n + m) k) ∧ w.heap.size ≤ g ∧ g < w'.heap.size ∧ Mine w' g 5 k (la ++ lb) ∧ Below w.heap.size w w' := by
  obtain ⟨i0, hi, hz0, hz1, hz2⟩ := info_parts infoByte
  obtain ⟨Z, hZ⟩ : ∃ Z : List Value, madeCells #[.int .u8 0] (n + m) = Z.toArray := ⟨_, (Array.toArray_toList).symm⟩
  have hZl : Z.length = n + m := by
    have := congrArg Array.size hZ
    rw [size_madeCells, List.size_toArray] at this
    exact this.symm
  have hmk : ∀ w, (Instr.makeSlice 26 (.int .i64 ((n : Int) + (m : Int))) (.int .i64 ((n : Int) + (m : Int)))).run Try.prog w = .ok (.slice (some ⟨w.heap.size, 0, none⟩) (n + m) (n + m)) (w.alloc (.cells Z.toArray 5)) := fun w => by
    have h := run_make_row (P := Try.prog) 26 5 i0 (.int .u8 0) Try.underlying26 hi hz0 hz1 rfl .i64 .i64 (n + m) (by rw [hz2]; omega) (by omega) w
    rw [hZ] at h
    rw [← h]; simp
  have hcut : ∀ g w, (Instr.slice 26 (.slice (some ⟨g, 0, none⟩) (n + m) (n + m)) (some (.int .i64 (n : Int))) none none).run Try.prog w = .ok (tailV g (n + m) n) w := fun g w => Lib.run_slice_tailV w _ _ Try.underlying26 sizeByte g (n + m) n (by omega)
  have hl1 := hA.len
  have hl2 := hB.len
  obtain ⟨X1, hX1⟩ : ∃ X1, X1 = byteCells la := ⟨_, rfl⟩
  obtain ⟨X2, hX2⟩ : ∃ X2, X2 = byteCells lb := ⟨_, rfl⟩
  have hx1 : X1.length = n := by rw [hX1, byteCells_length, hl1]
  have hx2 : X2.length = m := by rw [hX2, byteCells_length, hl2]
  have hF1 : 0 < X1.length → ∃ ad, A = some ad ∧ ∀ j v, X1[j]? = some v → w.cell? (ad.add j) = some v := by subst hX1; exact hA.from_
  have hF2 : 0 < X2.length → ∃ ad, B = some ad ∧ ∀ j v, X2[j]? = some v → w.cell? (ad.add j) = some v := by subst hX2; exact hB.from_
  have h1X1 : ∀ v ∈ X1, v.oneCell' = true := by subst hX1; exact byteCells_one _
  have h1X2 : ∀ v ∈ X2, v.oneCell' = true := by subst hX2; exact byteCells_one _
  have H1 := Lib.hid hX1
  have H2 := Lib.hid hX2
  have L1 := Lib.hid hx1
  have L2 := Lib.hid hx2
  have L3 := Lib.hid hl1
  have L4 := Lib.hid hl2
  have ZL := Lib.hid hZl
  have hbw : Below w.heap.size w (w.alloc (.cells Z.toArray 5)) := (Below.refl _ _).alloc (Nat.le_refl _) _
  clear hX1 hX2 hx1 hx2 hl1 hl2 hZ hZl
  go_enter Try.func87, Try.ntmps87
  go_wp2_with (with_reducible refine wpList_copy_splice rfl (.tmp 12) (.tmp 13) 26 26 rfl 5 Try.underlying26 sizeByte' (some ⟨w.heap.size, 0, none⟩) A (n + m) (n + m) n c rfl rfl w.heap.size 0 Z 5 ?_ X1 ?_ ?_ ?_ h1X1 w.heap.size w hbw (Nat.le_refl _) ?_)
  case refine_1 => exact heap_alloc_new _ _
  case refine_2 => exact L1.out.trans (Nat.min_eq_left (by omega)).symm
  case refine_3 =>
    intro hp
    obtain ⟨ad, e1, e2⟩ := hF1 hp
    exact ⟨ad, e1, fun j v hj => cell_below hbw _ _ (e2 j v hj)⟩
  case refine_4 => have := L1.out; have := ZL.out; omega
  intro w2 HG2 hb2
  clear hF1 hbw hmk
  have HP2 : Hid (0 < X2.length → some (if n + m = n then (⟨w.heap.size, 0, none⟩ : Addr) else ⟨w.heap.size, n, none⟩) = some ⟨w.heap.size, n, none⟩ ∧ ∃ ad, B = some ad ∧ ∀ j v, X2[j]? = some v → w2.cell? (ad.add j) = some v) := by
    intro hp
    have hm0 : ¬ n + m = n := by have := L2.out; omega
    obtain ⟨ad, e1, e2⟩ := hF2 hp
    exact ⟨by rw [if_neg hm0], ad, e1, fun j v hj => cell_below hb2 _ _ (e2 j v hj)⟩
  have HL2 : Hid (n + X2.length ≤ (splice Z 0 X1).length) := by
    have h1 := L1.out
    have h2 := L2.out
    have h3 := ZL.out
    show n + X2.length ≤ (splice Z 0 X1).length
    rw [length_splice _ _ _ (by omega)]; omega
  have HN2 : Hid (X2.length = Nat.min m (n + m - n)) := by
    have h2 := L2.out
    show X2.length = _
    rw [h2, Nat.add_sub_cancel_left]; exact (Nat.min_self m).symm
  clear hF2
  go_wp2_with (refine wpList_copy_splice rfl (.tmp 18) (.tmp 19) 26 26 rfl 5 Try.underlying26 sizeByte' (some (if n + m = n then ⟨w.heap.size, 0, none⟩ else ⟨w.heap.size, n, none⟩)) B (n + m - n) (n + m - n) m d (by rfl) rfl w.heap.size n (splice Z 0 X1) 5 HG2.out X2 HN2.out HP2.out HL2.out h1X2 w.heap.size w hb2 (Nat.le_refl _) ?_)
  intro w3 HG3 hb3
  clear HG2 HP2 HL2 HN2 hb2
  go_wp2_with fail
  go_ret
  dsimp only [Array.getD]
  refine ⟨w.heap.size, n + m, rfl, Nat.le_refl _, ?_, ⟨(X1 ++ X2).toArray, ?_, ?_, ?_, ?_⟩, hb3⟩
  · exact (Array.getElem?_eq_some_iff.1 HG3.out).1
  · rw [HG3.out, splice_two Z X1 X2 n m L1.out L2.out ZL.out]
  · rw [List.size_toArray, List.length_append, L1.out, L2.out]
  · rw [List.length_append, L3.out, L4.out]; omega
  · rw [List.length_append, L3.out, L4.out, List.toList_toArray, byteCells_append, H1.out, H2.out, List.take_of_length_le]
    rw [← byteCells_append, byteCells_length, List.length_append, L3.out, L4.out]; omega
end Go.Proofs.Ytiockkphciadeaa
