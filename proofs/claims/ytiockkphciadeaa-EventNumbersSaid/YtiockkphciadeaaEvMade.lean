/-
  Events that make gives: all of them 0.
-/
import Derived.Test.YtiockkphciadeaaEvRead
import Derived.Test.YtiockkphciadeaaRefA
import Derived.Laws.MakeOwn
set_option linter.unusedVariables false
set_option linter.unusedSimpArgs false
namespace Go.Proofs.Ytiockkphciadeaa
open Go.RowKit

theorem flat_size : ∀ es : List Ev, (es.flatMap Ev.cells).length = es.length * 5
  | [] => rfl
  | x :: es => by
    have h := flat_size es
    show (x.cells ++ es.flatMap Ev.cells).length = (es.length + 1) * 5
    rw [List.length_append, h]
    show 5 + _ = _
    omega
theorem zerosE (N : Nat) : madeCells (#[.int .i64 0, .int .u8 0, .int .i64 0, .int .i64 0, .int .i64 0] : Array Value) (N * 5) = ((List.replicate N Ev.zero).flatMap Ev.cells).toArray := by
  apply Array.ext
  · rw [size_madeCells, List.size_toArray, flat_size, List.length_replicate]
  · intro i h1 h2
    rw [size_madeCells] at h1
    have h3 := flatEv (List.replicate N Ev.zero) (i / 5) Ev.zero (by rw [List.getElem?_replicate, if_pos (by omega)]) (i % 5) (by omega)
    rw [show i / 5 * 5 + i % 5 = i by omega] at h3
    have h5 : i % 5 = 0 ∨ i % 5 = 1 ∨ i % 5 = 2 ∨ i % 5 = 3 ∨ i % 5 = 4 := by omega
    have h4 : (madeCells (#[.int .i64 0, .int .u8 0, .int .i64 0, .int .i64 0, .int .i64 0] : Array Value) (N * 5))[i]? = Ev.zero.cells[i % 5]? := by
      unfold madeCells
      rw [Array.getElem?_map, Array.getElem?_range, if_pos h1]
      show some ((#[.int .i64 0, .int .u8 0, .int .i64 0, .int .i64 0, .int .i64 0] : Array Value)[i % 5]!) = _
      rcases h5 with h | h | h | h | h <;> rw [h] <;> rfl
    rw [← h3] at h4
    rw [Array.getElem?_eq_getElem (by rw [size_madeCells]; exact h1), List.getElem?_eq_getElem (by simpa using h2)] at h4
    exact Option.some.inj h4
theorem run_zerosE (w : World) (kl kc : IntKind) (N : Nat) (hN : N ≤ 1048577) :
    (Instr.makeSlice 60 (.int kl (N : Int)) (.int kc (N : Int))).run Try.prog w = .ok (.slice (some ⟨w.heap.size, 0, none⟩) N N) (w.alloc (.cells ((List.replicate N Ev.zero).flatMap Ev.cells).toArray 54)) := by
  obtain ⟨i0, h2, h3, h4, h5⟩ := info_parts infoEv
  have hr := run_make (P := Try.prog) w 60 54 i0 (.agg #[.int .i64 0, .int .u8 0, .int .i64 0, .int .i64 0, .int .i64 0]) Try.underlying60 h2 h3 kl kc N N (by omega) (Int.le_refl _) (by rw [h5]; omega) (by omega)
  rw [h4] at hr
  have e1 : (Value.agg #[.int .i64 0, .int .u8 0, .int .i64 0, .int .i64 0, .int .i64 0]).cells = #[.int .i64 0, .int .u8 0, .int .i64 0, .int .i64 0, .int .i64 0] := rfl
  rw [e1, Int.toNat_natCast, zerosE] at hr
  exact hr
/-- what make gives is the call's own -/
theorem zeros_own (w : World) (N : Nat) (hN : N ≤ 1048577) : ∃ w', (∀ kl kc : IntKind, (Instr.makeSlice 60 (.int kl (N : Int)) (.int kc (N : Int))).run Try.prog w = .ok (.slice (some ⟨w.heap.size, 0, none⟩) N N) w') ∧
    OwnE w' w.heap.size (.slice (some ⟨w.heap.size, 0, none⟩) N N) (List.replicate N Ev.zero) ∧ Below w.heap.size w w' := by
  refine ⟨_, fun kl kc => run_zerosE w kl kc N hN, ?_, (Below.refl _ _).alloc (Nat.le_refl _) _⟩
  unfold OwnE
  refine ⟨flat_size _, .inr ⟨w.heap.size, N, _, ?_, Nat.le_refl _, heap_alloc_new _ _, ?_, ?_, ?_, ?_⟩⟩
  · rw [List.length_replicate]
  · rw [List.length_replicate]; exact Nat.le_refl _
  · unfold maxLen; omega
  · rw [List.size_toArray, flat_size, List.length_replicate]
  · rw [List.length_replicate]
    show List.take (N * 5) ((List.replicate N Ev.zero).flatMap Ev.cells) = _
    rw [List.take_of_length_le]
    rw [flat_size, List.length_replicate]
    exact Nat.le_refl _
end Go.Proofs.Ytiockkphciadeaa
