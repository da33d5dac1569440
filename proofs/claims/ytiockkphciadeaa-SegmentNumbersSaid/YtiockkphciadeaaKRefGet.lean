/-
  The definition's GetUint.
-/
import Derived.Test.YtiockkphciadeaaK1
set_option linter.unusedSimpArgs false
namespace Go.Proofs.Ytiockkphciadeaa
open Go.RowKit
open Go.Lib (byteCells byteCells_length byteCells_append uvarint uvarint_small uvarint_big)
set_option linter.unusedVariables false

theorem str_as (w : World) {A : Option Addr} {n c : Nat} {l : List UInt8} (h : IsB w A n c l) {s : ByteArray} (hs : s = ⟨l.toArray⟩) :
    (convert 26 9 (.slice A n c)).run Try.prog w = .ok (.string s) w := by
  subst hs
  exact str_of w h
theorem strs_ne {l m : List UInt8} {s t : ByteArray} (hs : s = ⟨l.toArray⟩) (ht : t = ⟨m.toArray⟩) (h : ¬ l = m) : (s.toList == t.toList) = false := by
  subst hs; subst ht
  rw [Lib.toList_data, Lib.toList_data]
  exact beq_false_of_ne fun hh => h (by simpa using hh)
theorem run_to (w : World) (A : Option Addr) (n c j : Nat) (hj : j ≤ c) :
    (Instr.slice 26 (.slice A n c) none (some (.int .i64 (j : Int))) none).run Try.prog w = .ok (.slice (if c = 0 then A else A.map (·.add 0)) j (c - 0)) w := by
  obtain ⟨i0, hi0, hz0, hz1, hz2⟩ := info_parts infoByte
  have ht : Try.prog.underlying 26 = some (.slice (Try.prog.elem 26)) := by simp [Program.elem, Try.underlying26]
  have he : Try.prog.elem 26 = 5 := by simp [Program.elem, Try.underlying26]
  rw [run_slice_h w 26 A n c ht .i64 (j : Int) (by omega) (by omega), he]
  simp [sizeOf, typeInfo, hi0, hz1, Result.andThen, sliced]

end Go.Proofs.Ytiockkphciadeaa
