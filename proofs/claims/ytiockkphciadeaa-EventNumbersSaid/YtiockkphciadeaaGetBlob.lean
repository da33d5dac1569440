/-
  GetBlob: the string at a place, of at most so many bytes.
-/
import Derived.Test.YtiockkphciadeaaUnseal
set_option linter.unusedSimpArgs false
namespace Go.Proofs.Ytiockkphciadeaa
open Go.RowKit
open Go.Lib (byteCells byteCells_length byteCells_append uvarint)

theorem scan_le : ∀ (f j acc : Nat) (l : List UInt8), (scan f j acc l).2.2 = 0 → (scan f j acc l).2.1 ≤ j + l.length
  | 0, _, _, _, h => by simp [scan] at h
  | f + 1, j, acc, [], h => by simp [scan] at h
  | f + 1, j, acc, x :: r, h => by
    rw [scan] at h ⊢
    split
    · rename_i hm
      rw [if_pos hm] at h
      split
      · simp
      · rename_i hx
        rw [if_neg hx] at h
        have := scan_le f (j + 1) _ r h
        simp only [List.length_cons]
        omega
    · rename_i hm
      rw [if_neg hm] at h
      simp at h
theorem getU_le (l : List UInt8) (h : (getU l).2.2 = 0) : (getU l).2.1 ≤ l.length := by
  have := scan_le 10 0 0 l h
  rw [Nat.zero_add] at this
  exact this
theorem getU_err (l : List UInt8) : (getU l).2.2 = 0 ∨ ((getU l).1 = 0 ∧ (getU l).2.1 = 0) := scan_bits 10 0 0 l

/-- the string at a place: its bytes, the place behind it, the error -/
def blobOf (l : List UInt8) (k : Nat) (most : Int) : List UInt8 × Nat × Nat :=
  if (getU (l.drop k)).2.2 ≠ 0 then ([], 0, (getU (l.drop k)).2.2)
  else if most < 0 ∨ most < ((getU (l.drop k)).1 : Int) then ([], 0, 3)
  else if l.length - (k + (getU (l.drop k)).2.1) < (getU (l.drop k)).1 then ([], 0, 11)
  else ((l.drop (k + (getU (l.drop k)).2.1)).take (getU (l.drop k)).1, k + (getU (l.drop k)).2.1 + (getU (l.drop k)).1, 0)

/-- a piece of a slice of bytes -/
theorem IsB.cut {w : World} {A : Option Addr} {n c : Nat} {l : List UInt8} (h : IsB w A n c l) {i m : Nat} (hi : i + m ≤ n) :
    IsB w (if c = i then A else A.map (·.add i)) m (c - i) ((l.drop i).take m) := by
  obtain ⟨hl, hc, hnone, hsrc⟩ := h
  refine ⟨by rw [List.length_take, List.length_drop]; omega, by omega, fun e => ?_, ?_⟩
  · by_cases hci : c = i
    · omega
    · rw [if_neg hci] at e
      cases A with
      | none => have := hnone rfl; omega
      | some a => simp at e
  · rcases Nat.eq_zero_or_pos m with h0 | h0
    · subst h0; exact .inl (by simp)
    · rw [if_neg (by omega)]
      rcases hsrc with rfl | ⟨b, o, rfl, hcell⟩
      · simp at hl; omega
      · refine .inr ⟨b, o + i, by simp [Addr.add_lit], fun j u hj => ?_⟩
        have hj' : l[i + j]? = some u := by
          have hjm : j < m := by
            have h1 := (List.getElem?_eq_some_iff.1 hj).1
            rw [List.length_take] at h1
            omega
          rw [List.getElem?_take_of_lt hjm, List.getElem?_drop] at hj
          exact hj
        rw [Nat.add_assoc]
        exact hcell (i + j) u hj'
theorem run_cut (w : World) (A : Option Addr) (n c i j : Nat) (hij : i ≤ j) (hj : j ≤ c) :
    (Instr.slice 26 (.slice A n c) (some (.int .i64 (i : Int))) (some (.int .i64 (j : Int))) none).run Try.prog w = .ok (.slice (if c = i then A else A.map (·.add i)) (j - i) (c - i)) w := by
  obtain ⟨i0, hi, hz0, hz1, hz2⟩ := info_parts infoByte
  have ht : Try.prog.underlying 26 = some (.slice (Try.prog.elem 26)) := by simp [Program.elem, Try.underlying26]
  have he : Try.prog.elem 26 = 5 := by simp [Program.elem, Try.underlying26]
  rw [run_slice_lh w 26 A n c ht .i64 .i64 (i : Int) (j : Int) (by omega) (by omega) (by omega), he]
  simp [sizeOf, typeInfo, hi, hz1, Result.andThen, sliced]

end Go.Proofs.Ytiockkphciadeaa
