/-
  EventRow: for any lists of events, any bytes and any place the law returns true: frames one behind the other are read one by one, whatever stands behind them; cut anywhere, those that are whole are read. No condition.
-/
import Derived.Test.YtinakeabbgphlaaEvRow
import Derived.Test.YtinakeabbgphlaaEvOpen
import Derived.Test.YtinakeabbgphlaaOpen
import Derived.Test.YtinakeabbgphlaaRows
import Derived.ProofKit
import Derived.ChangeOld
set_option linter.unusedSimpArgs false
set_option linter.unusedVariables false
namespace Go.Proofs.Ytinakeabbgphlaa.eventRow
open Go.ChangeShapes Go.WideShapes Go.ChangeAt Go.RowKit

theorem open_frames {H : Type} {enc : TypeId × Value → H} {w : World} {base : Nat} {held : Bool} {fuel : Nat} {v : Value} {x : DataW H × List MemPlace}
    (h : DataW.trod enc Try.prog w base (fun _ => true) held fuel 44 [v] = some x) : ∃ A n c xs, v = .slice A n c ∧ IsL 1 (fun cs (x : FrC) => cs = [.slice x.B x.n x.c] ∧ x.ok w) w A n c xs := by
  refine open_list 1 (fun cs (x : FrC) => cs = [.slice x.B x.n x.c] ∧ x.ok w) Try.underlying44 (by kernel_rfl) (by omega) (fun cs n y hcl ht => ?_) h
  match cs, hcl with
  | [c0], _ =>
    obtain ⟨B, m, d, l, h4, hB, ho, hm4⟩ := open_events ht
    subst h4
    exact ⟨⟨B, m, d, l⟩, rfl, hB, ho, hm4⟩
theorem walk' (W : World) (A0 : Option Addr) (n0 c0 : Nat) (l0 : List FrC) (E0 : IsL 1 (fun cs (x : FrC) => cs = [.slice x.B x.n x.c] ∧ x.ok W) W A0 n0 c0 l0) (A1 : Option Addr) (n1 c1 : Nat) (l1 : List UInt8) (E1 : IsB W A1 n1 c1 l1 ∧ c1 ≤ maxLen) (a2 : Int) (w2 : (Lit.int .i64 a2).wf = true) :
    Calls Try.prog 5 #[.slice A0 n0 c0, .slice A1 n1 c1, .int .i64 a2] W fun e w' => e = .returned (.bool true) ∧ Below W.heap.size W w' :=
  row_walk A0 n0 c0 l0 A1 n1 c1 l1 a2 W E0 E1.1 (in64_of w2) (Nat.le_trans E1.1.cap E1.2)

theorem own : ownKnob Try.prog.godebug = none := by kernel_rfl
theorem laidOut : laidOutB Try.prog = true := by kernel_rfl
set_option maxRecDepth 100000 in
theorem lifted (os : Os) (started : os.Started) (H : Type) (enc : TypeId × Value → H) :
    ReturnsInHanded {} Try.checked os 5 .any (Rows.eventRowSpec.pre6 enc Try.prog Try.f5 Rows.eventRowRow.domain false) (Rows.eventRowSpec.post enc Try.prog Try.f5 false true false false) := by
  refine returnsInHanded_of_change (C := Try.checked) own started (by kernel_rfl) Try.func5
    (ChangeSpec.witness6 (enc := enc) (C := Try.checked) false ⟨#[], #[.slice none 0 0, .slice none 0 0, .int .i64 0], []⟩ 8 (by kernel_rfl) (by kernel_rfl) (by kernel_rfl) (by kernel_rfl)) ?_
  intro W base args ds gs before hval0 hW hcnd _
  have hval : ∀ (j : Nat) t v, Try.f5.params[j]? = some t → args[j]? = some v → Value.okWide Try.prog W .any base t v := hval0
  have hW' := hW
  obtain ⟨p, q, hA0, hV, rfl, hfz, hnd⟩ := hW
  have hA : DataW.TrodAll enc Try.prog W 0 (fun _ => true) true Try.f5.params.toList args.toList ds p := hA0
  rw [Try.params5] at hA hval
  obtain ⟨v0, vs0, d0, ds0, p0, q0, hargs, rfl, rfl, h0, r0⟩ := trodAll_cons hA
  obtain ⟨v1, vs1, d1, ds1, p1, q1, rfl, rfl, rfl, h1, r1⟩ := trodAll_cons r0
  obtain ⟨v2, vs2, d2, ds2, p2, q2, rfl, rfl, rfl, h2, r2⟩ := trodAll_cons r1
  obtain ⟨rfl, rfl, rfl⟩ := trodAll_nil r2
  obtain rfl : args = #[v0, v1, v2] := by cases args; simp_all
  obtain ⟨rfl, rfl⟩ := trodVars_none hV
  have hlt : ∀ {t v d pp}, DataW.Trod enc Try.prog W 0 (fun _ => true) true t v d pp → ∀ x ∈ pp, x.block < W.heap.size := fun hk => by obtain ⟨m, hm⟩ := hk; exact DataW.trod_lt m _ _ _ hm
  obtain ⟨A0, n0, c0, rfl⟩ := okWide_slice Try.underlying44 (hval 0 44 v0 rfl rfl)
  have k0 := h0
  obtain ⟨f0, h0⟩ := h0
  obtain ⟨_, _, _, l0, e0, E0⟩ := open_frames (by simpa [Value.cells] using h0)
  simp only [Value.slice.injEq] at e0
  obtain ⟨rfl, rfl, rfl⟩ := e0
  obtain ⟨A1, n1, c1, rfl⟩ := okWide_slice Try.underlying27 (hval 1 27 v1 rfl rfl)
  have k1 := h1
  obtain ⟨f1, h1⟩ := h1
  obtain ⟨_, _, _, l1, e1, E1⟩ := open_bytes Try.underlying27 Try.underlying5 (by kernel_rfl) (by simpa [Value.cells] using h1)
  simp only [Value.slice.injEq] at e1
  obtain ⟨rfl, rfl, rfl⟩ := e1
  obtain ⟨a2, rfl, rfl, rfl, w2⟩ := open_int Try.underlying3 (hval 2 3 v2 rfl rfl) h2
  clear hA0 hval0
  refine (walk' W A0 n0 c0 l0 E0 A1 n1 c1 l1 E1 a2 w2).mono fun e W' ⟨he, bel⟩ => ?_
  subst he
  exact ⟨_, rfl, _, _, _, [], _, [], hW', trodAll_mk1 (shut_bool Try.underlying4 _), (trodAll_cons_mk (Below.trod laidOut (by kernel_rfl) (of_decide_eq_true (by kernel_rfl)) k0 bel (hlt k0)) (trodAll_cons_mk (Below.trod laidOut (by kernel_rfl) (of_decide_eq_true (by kernel_rfl)) k1 bel (hlt k1)) (trodAll_cons_mk (shut_int Try.underlying3 w2) trodAll_mk0))), rfl, bel.frame _, fun h => by cases h⟩

theorem proved : Rows.EventRowSaid :=
  OpenClaim.holds_of_wide 5 Try.f5 rfl rfl rfl rfl rfl rfl rfl ⟨rfl, rfl, rfl, rfl, rfl⟩ rfl rfl rfl rfl rfl (by kernel_rfl) Try.func5 (by kernel_rfl)
    (of_decide_eq_true (by kernel_rfl)) (by unfold Func.isWrapper; first | (rw [if_pos (by decide +kernel)]; kernel_rfl) | (rw [if_neg (by decide +kernel)]; exact ⟨rfl, rfl⟩))
    (fun os started H enc _ => lifted os started H enc)
#print axioms proved
end Go.Proofs.Ytinakeabbgphlaa.eventRow
