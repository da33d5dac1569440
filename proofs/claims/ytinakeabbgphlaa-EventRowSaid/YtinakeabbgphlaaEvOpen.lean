/-
  Events, and arrays of four, that came in: as the row's reading gives them.
-/
import Derived.Test.YtinakeabbgphlaaOpen
import Derived.Test.YtinakeabbgphlaaEvMem
import Derived.OpenShut
set_option linter.unusedVariables false
set_option maxRecDepth 100000
namespace Go.Proofs.Ytinakeabbgphlaa
open Go.RowKit Go.Deep Go.ChangeShapes Go.WideShapes

theorem in64_of {n : Int} (h : (Lit.int .i64 n).wf = true) : In64 n := wf_i64 h
section
variable {H : Type} {enc : TypeId × Value → H} {w : World} {base : Nat} {held : Bool} {fuel : Nat}
theorem five {cs : List Value} (h : cs.length = 5) : ∃ a b c d e, cs = [a, b, c, d, e] := by
  match cs, h with
  | [a, b, c, d, e], _ => exact ⟨a, b, c, d, e, rfl⟩
theorem four_ {cs : List Value} (h : cs.length = 4) : ∃ a b c d, cs = [a, b, c, d] := by
  match cs, h with
  | [a, b, c, d], _ => exact ⟨a, b, c, d, rfl⟩
theorem open_evcells {cs : List Value} {x : DataW H × List MemPlace} (h : DataW.trod enc Try.prog w base (fun _ => true) held fuel 24 cs = some x) :
    ∃ e : Ev, e.ok ∧ cs = e.cells := by
  obtain ⟨ys, n', _, _, hcl, hyl, hf⟩ := DataW.trod_struct Try.underlying24 h
  have k5 : Try.prog.cellsOf 24 = 5 := by kernel_rfl
  rw [k5] at hcl
  obtain ⟨c0, c1, c2, c3, c4, rfl⟩ := five hcl
  have ki : Try.prog.cellsOf 3 = 1 := by kernel_rfl
  have kl : Try.prog.cellsOf 2 = 1 := by kernel_rfl
  have ko : Try.prog.cellsOf 22 = 1 := by kernel_rfl
  have f0 : DataW.trod enc Try.prog w base (fun _ => true) held n' 3 [c0] = ys[0]? := by have := hf 0 _ rfl; simpa [ki] using this
  have f1 : DataW.trod enc Try.prog w base (fun _ => true) held n' 22 [c1] = ys[1]? := by have := hf 1 _ rfl; simpa [ko] using this
  have f2 : DataW.trod enc Try.prog w base (fun _ => true) held n' 3 [c2] = ys[2]? := by have := hf 2 _ rfl; simpa [ki] using this
  have f3 : DataW.trod enc Try.prog w base (fun _ => true) held n' 2 [c3] = ys[3]? := by have := hf 3 _ rfl; simpa [kl] using this
  have f4 : DataW.trod enc Try.prog w base (fun _ => true) held n' 2 [c4] = ys[4]? := by have := hf 4 _ rfl; simpa [kl] using this
  have hyl : ys.length = 5 := by assumption
  rw [List.getElem?_eq_getElem (by omega)] at f0 f1 f2 f3 f4
  obtain ⟨a0, h0, _, w0⟩ := DataW.trod_int Try.underlying3 f0
  obtain ⟨a1, h1, _, w1⟩ := DataW.trod_int Try.underlying22 f1
  obtain ⟨a2, h2, _, w2⟩ := DataW.trod_int Try.underlying3 f2
  obtain ⟨a3, h3, _, w3⟩ := DataW.trod_int Try.underlying2 f3
  obtain ⟨a4, h4, _, w4⟩ := DataW.trod_int Try.underlying2 f4
  simp at h0 h1 h2 h3 h4
  subst h0; subst h1; subst h2; subst h3; subst h4
  have w1 := wf_u8 w1
  obtain ⟨o, rfl⟩ := Int.eq_ofNat_of_zero_le w1.1
  exact ⟨⟨a0, o, a2, a3, a4⟩, ⟨in64_of w0, by show o < 256; omega, in64_of w2, in64_of w3, in64_of w4⟩, rfl⟩
theorem open_event {v : Value} {x : DataW H × List MemPlace} (hv : Value.okWide Try.prog w .any 0 24 v)
    (h : DataW.trod enc Try.prog w base (fun _ => true) held fuel 24 v.cells.toList = some x) :
    ∃ e : Ev, e.ok ∧ v = .agg #[.int .i64 e.th, .int .u8 (e.op : Int), .int .i64 e.obj, .int .i64 e.a, .int .i64 e.b] := by
  obtain ⟨cs, rfl, _⟩ := okWide_struct Try.underlying24 hv
  obtain ⟨e, he, hc⟩ := open_evcells h
  refine ⟨e, he, ?_⟩
  have : cs.toList = e.cells := hc
  rw [← Array.toArray_toList (xs := cs), this]
  rfl
theorem okWide_quad64 {v : Value} (hv : Value.okWide Try.prog w .any 0 74 v) : ∃ cs, v = .agg cs := by
  simp only [Value.okWide, Try.underlying74] at hv
  obtain ⟨cs, h1, _⟩ := hv
  exact ⟨cs, h1⟩
theorem open_quad64 {v : Value} {x : DataW H × List MemPlace} (hv : Value.okWide Try.prog w .any 0 74 v)
    (h : DataW.trod enc Try.prog w base (fun _ => true) held fuel 74 v.cells.toList = some x) :
    ∃ d0 d1 d2 d3 : Int, (In64 d0 ∧ In64 d1 ∧ In64 d2 ∧ In64 d3) ∧ v = .agg #[.int .i64 d0, .int .i64 d1, .int .i64 d2, .int .i64 d3] := by
  obtain ⟨cs, rfl⟩ := okWide_quad64 hv
  obtain ⟨ys, n', _, _, hcl, hyl, hf⟩ := DataW.trod_array Try.underlying74 h
  have k4 : Try.prog.cellsOf 74 = 4 := by kernel_rfl
  have k1 : Try.prog.cellsOf 2 = 1 := by kernel_rfl
  rw [k4] at hcl
  obtain ⟨c0, c1, c2, c3, hc⟩ := four_ hcl
  have hcs : cs.toList = [c0, c1, c2, c3] := hc
  rw [hc] at hf
  have f0 : DataW.trod enc Try.prog w base (fun _ => true) held n' 2 [c0] = ys[0]? := by have := hf 0 (by omega); simpa [k1] using this
  have f1 : DataW.trod enc Try.prog w base (fun _ => true) held n' 2 [c1] = ys[1]? := by have := hf 1 (by omega); simpa [k1] using this
  have f2 : DataW.trod enc Try.prog w base (fun _ => true) held n' 2 [c2] = ys[2]? := by have := hf 2 (by omega); simpa [k1] using this
  have f3 : DataW.trod enc Try.prog w base (fun _ => true) held n' 2 [c3] = ys[3]? := by have := hf 3 (by omega); simpa [k1] using this
  rw [List.getElem?_eq_getElem (by omega)] at f0 f1 f2 f3
  obtain ⟨a0, h0, _, w0⟩ := DataW.trod_int Try.underlying2 f0
  obtain ⟨a1, h1, _, w1⟩ := DataW.trod_int Try.underlying2 f1
  obtain ⟨a2, h2, _, w2⟩ := DataW.trod_int Try.underlying2 f2
  obtain ⟨a3, h3, _, w3⟩ := DataW.trod_int Try.underlying2 f3
  simp at h0 h1 h2 h3
  subst h0; subst h1; subst h2; subst h3
  refine ⟨a0, a1, a2, a3, ⟨in64_of w0, in64_of w1, in64_of w2, in64_of w3⟩, ?_⟩
  rw [← Array.toArray_toList (xs := cs), hcs]
theorem okWide_quad8 {v : Value} (hv : Value.okWide Try.prog w .any 0 66 v) : ∃ cs, v = .agg cs := by
  simp only [Value.okWide, Try.underlying66] at hv
  obtain ⟨cs, h1, _⟩ := hv
  exact ⟨cs, h1⟩
theorem open_quad8 {v : Value} {x : DataW H × List MemPlace} (hv : Value.okWide Try.prog w .any 0 66 v)
    (h : DataW.trod enc Try.prog w base (fun _ => true) held fuel 66 v.cells.toList = some x) :
    ∃ d0 d1 d2 d3 : Int, ((0 ≤ d0 ∧ d0 < 256) ∧ (0 ≤ d1 ∧ d1 < 256) ∧ (0 ≤ d2 ∧ d2 < 256) ∧ (0 ≤ d3 ∧ d3 < 256)) ∧ v = .agg #[.int .u8 d0, .int .u8 d1, .int .u8 d2, .int .u8 d3] := by
  obtain ⟨cs, rfl⟩ := okWide_quad8 hv
  obtain ⟨ys, n', _, _, hcl, hyl, hf⟩ := DataW.trod_array Try.underlying66 h
  have k4 : Try.prog.cellsOf 66 = 4 := by kernel_rfl
  have k1 : Try.prog.cellsOf 5 = 1 := by kernel_rfl
  rw [k4] at hcl
  obtain ⟨c0, c1, c2, c3, hc⟩ := four_ hcl
  have hcs : cs.toList = [c0, c1, c2, c3] := hc
  rw [hc] at hf
  have f0 : DataW.trod enc Try.prog w base (fun _ => true) held n' 5 [c0] = ys[0]? := by have := hf 0 (by omega); simpa [k1] using this
  have f1 : DataW.trod enc Try.prog w base (fun _ => true) held n' 5 [c1] = ys[1]? := by have := hf 1 (by omega); simpa [k1] using this
  have f2 : DataW.trod enc Try.prog w base (fun _ => true) held n' 5 [c2] = ys[2]? := by have := hf 2 (by omega); simpa [k1] using this
  have f3 : DataW.trod enc Try.prog w base (fun _ => true) held n' 5 [c3] = ys[3]? := by have := hf 3 (by omega); simpa [k1] using this
  rw [List.getElem?_eq_getElem (by omega)] at f0 f1 f2 f3
  obtain ⟨a0, h0, _, w0⟩ := DataW.trod_int Try.underlying5 f0
  obtain ⟨a1, h1, _, w1⟩ := DataW.trod_int Try.underlying5 f1
  obtain ⟨a2, h2, _, w2⟩ := DataW.trod_int Try.underlying5 f2
  obtain ⟨a3, h3, _, w3⟩ := DataW.trod_int Try.underlying5 f3
  simp at h0 h1 h2 h3
  subst h0; subst h1; subst h2; subst h3
  refine ⟨a0, a1, a2, a3, ⟨wf_u8 w0, wf_u8 w1, wf_u8 w2, wf_u8 w3⟩, ?_⟩
  rw [← Array.toArray_toList (xs := cs), hcs]
theorem open_events {v : Value} {x : DataW H × List MemPlace}
    (h : DataW.trod enc Try.prog w base (fun _ => true) held fuel 33 [v] = some x) : ∃ A n c xs, v = .slice A n c ∧ IsEv w A n c xs ∧ (∀ x ∈ xs, x.ok) ∧ c ≤ maxLen := by
  obtain ⟨A, n, c, xs, rfl, hL⟩ := open_list 5 (fun cs (e : Ev) => e.ok ∧ cs = e.cells) Try.underlying33 (by kernel_rfl) (by omega) (fun cs n y hcl ht => open_evcells ht) h
  refine ⟨A, n, c, xs, rfl, ⟨hL.len, hL.cap, hL.none_, ?_⟩, ?_, hL.max⟩
  · rcases hL.src with h0 | ⟨b, o, hA, hc⟩
    · exact .inl h0
    · refine .inr ⟨b, o, hA, fun j x hj f u hu => ?_⟩
      obtain ⟨cs, hcl, hat, _, rfl⟩ := hc j x hj
      exact hat f u hu
  · intro x hx
    obtain ⟨j, hj, ex⟩ := List.getElem_of_mem hx
    obtain ⟨b, o, y, cs, _, hy, _, _, hr, _⟩ := hL.at_ (j := j) (by have := hL.len; omega)
    rw [List.getElem?_eq_getElem hj] at hy
    rw [← ex, Option.some.inj hy]
    exact hr
end
end Go.Proofs.Ytinakeabbgphlaa
