/-
  The definition's calls: bytes behind bytes; numbers, laid out.
-/
import Derived.Test.YtdcflgblaljdeaaMine
import Derived.Laws.CopyOwn
import Derived.Deep.OwnRows
import Derived.Lib.SlBuf
import Derived.Laws.MakeOwn
set_option linter.unusedSimpArgs false
namespace Go.Proofs.Ytdcflgblaljdeaa
open Go.RowKit
open Go.Lib (byteCells byteCells_length byteCells_append uvarint uvarint_small uvarint_big tailV)
set_option linter.unusedVariables false

theorem IsB.from_ {w : World} {A : Option Addr} {n c : Nat} {l : List UInt8} (h : IsB w A n c l) (hp : 0 < (byteCells l).length) : ∃ ad, A = some ad ∧ ∀ j v, (byteCells l)[j]? = some v → w.cell? (ad.add j) = some v := by
  rcases h.src with rfl | ⟨b, o, hA, hc⟩
  · simp [byteCells] at hp
  · refine ⟨_, hA, fun j v hj => ?_⟩
    rw [byteCells, List.getElem?_map] at hj
    obtain ⟨x, hx, rfl⟩ := Option.map_eq_some_iff.1 hj
    rw [Addr.add_lit]
    exact hc j x hx
theorem sizeByte : ∀ w, (Go.sizeOf 5).run Try.prog w = .ok 1 w := fun w => by kernel_rfl
theorem sizeByte' : (Try.prog.info? 5).map (·.size) = some 1 := by kernel_rfl

theorem splice_two {α : Type} (Z X1 X2 : List α) (n m : Nat) (h1 : X1.length = n) (h2 : X2.length = m) (hZ : Z.length = n + m) : splice (splice Z 0 X1) n X2 = X1 ++ X2 := by
  subst h1; subst h2
  unfold splice
  have e1 : Z.take 0 ++ (X1 ++ Z.drop (0 + X1.length)) = X1 ++ Z.drop X1.length := by simp
  rw [e1]
  have e2 : (X1 ++ Z.drop X1.length).take X1.length = X1 := by simp
  have e3 : (X1 ++ Z.drop X1.length).drop (X1.length + X2.length) = [] := by
    apply List.drop_eq_nil_of_le; simp; omega
  rw [e2, e3, List.append_nil]

end Go.Proofs.Ytdcflgblaljdeaa
