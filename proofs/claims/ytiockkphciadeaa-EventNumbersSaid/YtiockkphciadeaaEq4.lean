/-
  Two arrays of four bytes are the same just if all four are.
-/
import Derived.Test.YtiockkphciadeaaLeaf
set_option linter.unusedSimpArgs false
namespace Go.Proofs.Ytiockkphciadeaa
open Go.RowKit

theorem info4 : (Try.prog.info? 5).map (fun i => (i.zero, i.size, i.bytes)) = some (some (.int .u8 0), 1, 1) := by kernel_rfl
theorem run_eq4 (w : World) (a0 a1 a2 a3 b0 b1 b2 b3 : Int) :
    (Op.equalIn 10000 140 (.agg #[.int .u8 a0, .int .u8 a1, .int .u8 a2, .int .u8 a3]) (.agg #[.int .u8 b0, .int .u8 b1, .int .u8 b2, .int .u8 b3])).run Try.prog w =
      .ok (a0 == b0 && (a1 == b1 && (a2 == b2 && a3 == b3))) w := by
  obtain ⟨i0, hi, hz0, hz1, hz2⟩ := info_parts info4
  have he := fun (d : Nat) (a b : Int) (w : World) => run_equalIn_int (P := Try.prog) w d 5 .u8 .u8 a b Try.underlying5
  have hpart : ∀ (cs : Array Value) (k : Nat) (x : Int) (w : World), cs[k]? = some (.int .u8 x) → (part 5 cs k).run Try.prog w = .ok (.int .u8 x) w := by
    intro cs k x w h
    simp [part, h]
  have hs : ∀ w : World, (sizeOf 5).run Try.prog w = .ok 1 w := by
    intro w
    simp [sizeOf, typeInfo, hi, hz1]
  have p0 := fun w => hpart #[.int .u8 a0, .int .u8 a1, .int .u8 a2, .int .u8 a3] 0 a0 w rfl
  have p1 := fun w => hpart #[.int .u8 a0, .int .u8 a1, .int .u8 a2, .int .u8 a3] 1 a1 w rfl
  have p2 := fun w => hpart #[.int .u8 a0, .int .u8 a1, .int .u8 a2, .int .u8 a3] 2 a2 w rfl
  have p3 := fun w => hpart #[.int .u8 a0, .int .u8 a1, .int .u8 a2, .int .u8 a3] 3 a3 w rfl
  have q0 := fun w => hpart #[.int .u8 b0, .int .u8 b1, .int .u8 b2, .int .u8 b3] 0 b0 w rfl
  have q1 := fun w => hpart #[.int .u8 b0, .int .u8 b1, .int .u8 b2, .int .u8 b3] 1 b1 w rfl
  have q2 := fun w => hpart #[.int .u8 b0, .int .u8 b1, .int .u8 b2, .int .u8 b3] 2 b2 w rfl
  have q3 := fun w => hpart #[.int .u8 b0, .int .u8 b1, .int .u8 b2, .int .u8 b3] 3 b3 w rfl
  have he' := fun (a b : Int) (w : World) => he 9998 a b w
  show (Op.equalIn (9999 + 1) 140 _ _).run _ _ = _
  rw [Op.equalIn]
  simp only [Sem.run_bind, run_underlying Try.underlying140, Result.andThen_ok, hs, Std.Legacy.Range.forIn_eq_forIn_range']
  rw [show List.range' (Std.Legacy.Range.start [:4]) (Std.Legacy.Range.size [:4]) (Std.Legacy.Range.step [:4]) = [0, 1, 2, 3] by rfl]
  cases h0 : (a0 == b0) <;> cases h1 : (a1 == b1) <;> cases h2 : (a2 == b2) <;> cases h3 : (a3 == b3) <;>
    simp [Sem.run_bind, Result.andThen_ok, p0, p1, p2, p3, q0, q1, q2, q3, he', h0, h1, h2, h3, Sem.run_pure]
end Go.Proofs.Ytiockkphciadeaa
