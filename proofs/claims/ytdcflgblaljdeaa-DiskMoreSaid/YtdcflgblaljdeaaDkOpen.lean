/-
  What the disk's laws are given: slices of calls, of numbers, as the row's reading gives them.
-/
import Derived.Test.YtdcflgblaljdeaaOpen
import Derived.Test.YtdcflgblaljdeaaDkDoes
import Derived.ProofKit
set_option linter.unusedVariables false
set_option linter.unusedSimpArgs false
namespace Go.Proofs.Ytdcflgblaljdeaa
open Go.ChangeShapes Go.WideShapes Go.ChangeAt Go.RowKit

theorem open_nums {H : Type} {enc : TypeId × Value → H} {w : World} {base : Nat} {held : Bool} {fuel : Nat} {v : Value} {x : DataW H × List MemPlace}
    (h : DataW.trod enc Try.prog w base (fun _ => true) held fuel 43 [v] = some x) : ∃ A n c zs, v = .slice A n c ∧ IsI w A n c zs ∧ c ≤ maxLen := by
  obtain ⟨A, n, c, xs, rfl, hL⟩ := open_list 1 (fun cs (z : Int) => cs = [.int .i64 z] ∧ -9223372036854775808 ≤ z ∧ z ≤ 9223372036854775807) Try.underlying43 (by kernel_rfl) (by omega) (fun cs n y hcl ht => by
    obtain ⟨a, h0, _, w0⟩ := DataW.trod_int Try.underlying3 ht
    have w0 := wf_i64 w0
    exact ⟨a, h0, by omega, by omega⟩) h
  refine ⟨A, n, c, xs, rfl, ⟨hL.len, hL.cap, ?_, ?_⟩, hL.max⟩
  · intro z hz
    obtain ⟨j, hj, ex⟩ := List.getElem_of_mem hz
    obtain ⟨b, o, y, cs, _, hy, _, _, _, hr⟩ := hL.at_ (j := j) (by have := hL.len; omega)
    rw [List.getElem?_eq_getElem hj] at hy
    rw [← ex, Option.some.inj hy]
    exact hr
  · rcases hL.src with h0 | ⟨b, o, hA, hc⟩
    · exact .inl h0
    · refine .inr ⟨b, o, hA, fun j x hj => ?_⟩
      obtain ⟨cs, hcl, hat, rfl, _⟩ := hc j x hj
      have := hat 0 _ rfl
      rwa [Nat.mul_one, Nat.add_zero] at this
set_option maxRecDepth 100000 in
theorem open_ops {H : Type} {enc : TypeId × Value → H} {w : World} {base : Nat} {held : Bool} {fuel : Nat} {v : Value} {x : DataW H × List MemPlace}
    (h : DataW.trod enc Try.prog w base (fun _ => true) held fuel 44 [v] = some x) : ∃ A n c xs, v = .slice A n c ∧ IsL 6 (fun cs (x : OpC) => cs = x.cells ∧ x.ok w) w A n c xs := by
  refine open_list 6 (fun cs (x : OpC) => cs = x.cells ∧ x.ok w) Try.underlying44 (by kernel_rfl) (by omega) (fun cs n y hcl ht => ?_) h
  obtain ⟨ys, n', _, _, _, _, hf⟩ := DataW.trod_struct Try.underlying51 ht
  match cs, hcl with
  | [c0, c1, c2, c3, c4, c5], _ =>
    have ki : Try.prog.cellsOf 3 = 1 := by kernel_rfl
    have kt : Try.prog.cellsOf 9 = 1 := by kernel_rfl
    have kb : Try.prog.cellsOf 26 = 1 := by kernel_rfl
    have kn : Try.prog.cellsOf 43 = 1 := by kernel_rfl
    have k8 : Try.prog.cellsOf 5 = 1 := by kernel_rfl
    have f0 : DataW.trod enc Try.prog w base (fun _ => true) held n' 3 [c0] = ys[0]? := by have := hf 0 _ rfl; simpa [ki] using this
    have f1 : DataW.trod enc Try.prog w base (fun _ => true) held n' 3 [c1] = ys[1]? := by have := hf 1 _ rfl; simpa [ki] using this
    have f2 : DataW.trod enc Try.prog w base (fun _ => true) held n' 9 [c2] = ys[2]? := by have := hf 2 _ rfl; simpa [ki, kt] using this
    have f3 : DataW.trod enc Try.prog w base (fun _ => true) held n' 9 [c3] = ys[3]? := by have := hf 3 _ rfl; simpa [ki, kt] using this
    have f4 : DataW.trod enc Try.prog w base (fun _ => true) held n' 26 [c4] = ys[4]? := by have := hf 4 _ rfl; simpa [ki, kt, kb] using this
    have f5 : DataW.trod enc Try.prog w base (fun _ => true) held n' 43 [c5] = ys[5]? := by have := hf 5 _ rfl; simpa [ki, kt, kb, kn] using this
    have hyl : ys.length = 6 := by assumption
    rw [List.getElem?_eq_getElem (by omega)] at f0 f1 f2 f3 f4 f5
    obtain ⟨a0, h0, _, w0⟩ := DataW.trod_int Try.underlying3 f0
    obtain ⟨a1, h1, _, w1⟩ := DataW.trod_int Try.underlying3 f1
    obtain ⟨s2, h2, _, z2⟩ := DataW.trod_string Try.underlying9 f2
    obtain ⟨s3, h3, _, z3⟩ := DataW.trod_string Try.underlying9 f3
    obtain ⟨B, m, d, l, h4, hB, hm4⟩ := open_bytes Try.underlying26 Try.underlying5 k8 f4
    obtain ⟨K, mk, dk, zs, h5, hK, hm5⟩ := open_nums f5
    simp at h0 h1 h2 h3
    subst h0; subst h1; subst h2; subst h3; subst h4; subst h5
    have w1 := wf_i64 w1
    exact ⟨⟨⟨a0, a1, s2, s3, l, zs⟩, B, m, d, K, mk, dk⟩, rfl, hB, hK, Nat.le_trans hB.cap hm4, Nat.le_trans hK.cap hm5, z2, z3, by show _ ≤ a1; omega, by show a1 ≤ _; omega⟩
end Go.Proofs.Ytdcflgblaljdeaa
