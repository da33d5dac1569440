/-
  EventTurned: for any events, any place of a frame's body and any change of up to four bytes from there on the law returns true: a body that is another one is refused with ErrSum. No condition.
-/
import Derived.Test.YtindmilfkcggaaaEvTurned
import Derived.Test.YtindmilfkcggaaaEvOpen
import Derived.Test.YtindmilfkcggaaaOpen
import Derived.Test.YtindmilfkcggaaaRows
import Derived.ProofKit
import Derived.ChangeOld
set_option linter.unusedSimpArgs false
set_option linter.unusedVariables false
namespace Go.Proofs.Ytindmilfkcggaaa.eventTurned
open Go.ChangeShapes Go.WideShapes Go.ChangeAt Go.RowKit

theorem byte_of {d : Int} (h : 0 ≤ d ∧ d < 256) : ∃ u : UInt8, d = (u.toNat : Int) := ⟨d.toNat.toUInt8, by rw [byte_toNat (by omega)]; omega⟩
theorem walk' (W : World) (A0 : Option Addr) (n0 c0 : Nat) (l0 : List Ev) (E0 : IsEv W A0 n0 c0 l0 ∧ (∀ x ∈ l0, x.ok) ∧ c0 ≤ maxLen) (a1 : Int) (w1 : (Lit.int .i64 a1).wf = true) (d0 d1 d2 d3 : Int) (hd : (0 ≤ d0 ∧ d0 < 256) ∧ (0 ≤ d1 ∧ d1 < 256) ∧ (0 ≤ d2 ∧ d2 < 256) ∧ (0 ≤ d3 ∧ d3 < 256)) :
    Calls Try.prog 9 #[.slice A0 n0 c0, .int .i64 a1, .agg #[.int .u8 d0, .int .u8 d1, .int .u8 d2, .int .u8 d3]] W fun e w' => e = .returned (.bool true) ∧ Below W.heap.size W w' := by
  obtain ⟨u0, rfl⟩ := byte_of hd.1
  obtain ⟨u1, rfl⟩ := byte_of hd.2.1
  obtain ⟨u2, rfl⟩ := byte_of hd.2.2.1
  obtain ⟨u3, rfl⟩ := byte_of hd.2.2.2
  exact turned_walk A0 n0 c0 l0 a1 u0 u1 u2 u3 W E0.1 E0.2.1 (in64_of w1) (Nat.le_trans E0.1.cap E0.2.2)

theorem own : ownKnob Try.prog.godebug = none := by kernel_rfl
theorem laidOut : laidOutB Try.prog = true := by kernel_rfl
set_option maxRecDepth 100000 in
theorem lifted (os : Os) (started : os.Started) (H : Type) (enc : TypeId × Value → H) :
    ReturnsInHanded {} Try.checked os 9 .any (Rows.eventTurnedSpec.pre6 enc Try.prog Try.f9 Rows.eventTurnedRow.domain false) (Rows.eventTurnedSpec.post enc Try.prog Try.f9 false true false false) := by
  refine returnsInHanded_of_change (C := Try.checked) own started (by kernel_rfl) Try.func9
    (ChangeSpec.witness6 (enc := enc) (C := Try.checked) false ⟨#[], #[.slice none 0 0, .int .i64 0, .agg #[.int .u8 0, .int .u8 0, .int .u8 0, .int .u8 0]], []⟩ 8 (by kernel_rfl) (by kernel_rfl) (by kernel_rfl) (by kernel_rfl)) ?_
  intro W base args ds gs before hval0 hW hcnd _
  have hval : ∀ (j : Nat) t v, Try.f9.params[j]? = some t → args[j]? = some v → Value.okWide Try.prog W .any base t v := hval0
  have hW' := hW
  obtain ⟨p, q, hA0, hV, rfl, hfz, hnd⟩ := hW
  have hA : DataW.TrodAll enc Try.prog W 0 (fun _ => true) true Try.f9.params.toList args.toList ds p := hA0
  rw [Try.params9] at hA hval
  obtain ⟨v0, vs0, d0, ds0, p0, q0, hargs, rfl, rfl, h0, r0⟩ := trodAll_cons hA
  obtain ⟨v1, vs1, d1, ds1, p1, q1, rfl, rfl, rfl, h1, r1⟩ := trodAll_cons r0
  obtain ⟨v2, vs2, d2, ds2, p2, q2, rfl, rfl, rfl, h2, r2⟩ := trodAll_cons r1
  obtain ⟨rfl, rfl, rfl⟩ := trodAll_nil r2
  obtain rfl : args = #[v0, v1, v2] := by cases args; simp_all
  obtain ⟨rfl, rfl⟩ := trodVars_none hV
  have hlt : ∀ {t v d pp}, DataW.Trod enc Try.prog W 0 (fun _ => true) true t v d pp → ∀ x ∈ pp, x.block < W.heap.size := fun hk => by obtain ⟨m, hm⟩ := hk; exact DataW.trod_lt m _ _ _ hm
  obtain ⟨A0, n0, c0, rfl⟩ := okWide_slice Try.underlying33 (hval 0 33 v0 rfl rfl)
  have k0 := h0
  obtain ⟨f0, h0⟩ := h0
  obtain ⟨_, _, _, l0, e0, E0⟩ := open_events (by simpa [Value.cells] using h0)
  simp only [Value.slice.injEq] at e0
  obtain ⟨rfl, rfl, rfl⟩ := e0
  obtain ⟨a1, rfl, rfl, rfl, w1⟩ := open_int Try.underlying3 (hval 1 3 v1 rfl rfl) h1
  have k2 := h2
  obtain ⟨f2, h2⟩ := h2
  obtain ⟨y2, z2, u2, t2, o2, rfl⟩ := open_quad8 (hval 2 53 v2 rfl rfl) h2
  clear hA0 hval0
  refine (walk' W A0 n0 c0 l0 E0 a1 w1 y2 z2 u2 t2 o2).mono fun e W' ⟨he, bel⟩ => ?_
  subst he
  exact ⟨_, rfl, _, _, _, [], _, [], hW', trodAll_mk1 (shut_bool Try.underlying4 _), (trodAll_cons_mk (Below.trod laidOut (by kernel_rfl) (of_decide_eq_true (by kernel_rfl)) k0 bel (hlt k0)) (trodAll_cons_mk (shut_int Try.underlying3 w1) (trodAll_cons_mk (Below.trod laidOut (by kernel_rfl) (of_decide_eq_true (by kernel_rfl)) k2 bel (hlt k2)) trodAll_mk0))), rfl, bel.frame _, fun h => by cases h⟩

theorem proved : Rows.EventTurnedSaid :=
  OpenClaim.holds_of_wide 9 Try.f9 rfl rfl rfl rfl rfl rfl rfl ⟨rfl, rfl, rfl, rfl, rfl⟩ rfl rfl rfl rfl rfl (by kernel_rfl) Try.func9 (by kernel_rfl)
    (of_decide_eq_true (by kernel_rfl)) (by unfold Func.isWrapper; first | (rw [if_pos (by decide +kernel)]; kernel_rfl) | (rw [if_neg (by decide +kernel)]; exact ⟨rfl, rfl⟩))
    (fun os started H enc _ => lifted os started H enc)
#print axioms proved
end Go.Proofs.Ytindmilfkcggaaa.eventTurned
