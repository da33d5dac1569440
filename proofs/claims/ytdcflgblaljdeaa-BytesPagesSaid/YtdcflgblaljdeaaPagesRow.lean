/-
  BytesPages: for any entries, any others and any places the law returns true: a page is read, sealed and unsealed, from its first entry to its last; two pages of the same kinds are the same bytes just if all their entries are the same. No condition.
-/
import Derived.Test.YtdcflgblaljdeaaPagesD
import Derived.Test.YtdcflgblaljdeaaOpen
import Derived.Test.YtdcflgblaljdeaaRows
import Derived.ProofKit
import Derived.ChangeOld
set_option linter.unusedSimpArgs false
namespace Go.Proofs.Ytdcflgblaljdeaa.bytesPages
open Go.ChangeShapes Go.WideShapes Go.ChangeAt Go.RowKit
set_option linter.unusedVariables false

def RelE (w : World) (cs : List Value) (x : Ent) : Prop := x.ok ∧ ∃ B m d, cs = [.int .u8 (x.kind : Int), .int .u64 (x.num : Int), .slice B m d] ∧ IsB w B m d x.str
set_option maxRecDepth 100000 in
theorem open_entries {H : Type} {enc : TypeId × Value → H} {w : World} {base : Nat} {held : Bool} {fuel : Nat} {v : Value} {x : DataW H × List MemPlace}
    (h : DataW.trod enc Try.prog w base (fun _ => true) held fuel 85 [v] = some x) : ∃ A n c xs, v = .slice A n c ∧ IsE w A n c xs ∧ (∀ x ∈ xs, x.ok) ∧ c ≤ maxLen := by
  obtain ⟨A, n, c, xs, rfl, hL⟩ := open_list 3 (RelE w) Try.underlying85 (by kernel_rfl) (by omega) (fun cs n y hcl ht => by
    obtain ⟨ys, n', _, _, _, _, hf⟩ := DataW.trod_struct Try.underlying89 ht
    match cs, hcl with
    | [c0, c1, c2], _ =>
      have k8 : Try.prog.cellsOf 5 = 1 := by kernel_rfl
      have k64 : Try.prog.cellsOf 87 = 1 := by kernel_rfl
      have ks : Try.prog.cellsOf 26 = 1 := by kernel_rfl
      have f0 : DataW.trod enc Try.prog w base (fun _ => true) held n' 5 [c0] = ys[0]? := by have := hf 0 _ rfl; simpa [k8] using this
      have f1 : DataW.trod enc Try.prog w base (fun _ => true) held n' 87 [c1] = ys[1]? := by have := hf 1 _ rfl; simpa [k64] using this
      have f2 : DataW.trod enc Try.prog w base (fun _ => true) held n' 26 [c2] = ys[2]? := by have := hf 2 _ rfl; simpa [ks] using this
      have hyl : ys.length = 3 := by assumption
      rw [List.getElem?_eq_getElem (by omega)] at f0 f1 f2
      obtain ⟨a, h0, _, w0⟩ := DataW.trod_int Try.underlying5 f0
      obtain ⟨b, h1, _, w1⟩ := DataW.trod_int Try.underlying87 f1
      obtain ⟨B, m, d, l, h2, hB, _⟩ := open_bytes Try.underlying26 Try.underlying5 k8 f2
      simp at h0 h1
      subst h0; subst h1; subst h2
      have w0 := wf_u8 w0
      have w1 := wf_u64 w1
      obtain ⟨a', rfl⟩ := Int.eq_ofNat_of_zero_le w0.1
      obtain ⟨b', rfl⟩ := Int.eq_ofNat_of_zero_le w1.1
      exact ⟨⟨a', b', l⟩, ⟨by show a' < 256; omega, by show b' < 18446744073709551616; omega⟩, B, m, d, rfl, hB⟩) h
  refine ⟨A, n, c, xs, rfl, ⟨hL.len, hL.cap, hL.none_, ?_⟩, ?_, hL.max⟩
  · rcases hL.src with h0 | ⟨b, o, hA, hc⟩
    · exact .inl h0
    · refine .inr ⟨b, o, hA, fun j x hj => ?_⟩
      obtain ⟨cs, hcl, hat, _, B, m, d, rfl, hB⟩ := hc j x hj
      exact ⟨hat 0 _ rfl, hat 1 _ rfl, B, m, d, hat 2 _ rfl, hB⟩
  · intro x hx
    obtain ⟨j, hj, ex⟩ := List.getElem_of_mem hx
    obtain ⟨b, o, y, cs, _, hy, _, _, hr, _⟩ := hL.at_ (j := j) (by have := hL.len; omega)
    rw [List.getElem?_eq_getElem hj] at hy
    rw [← ex, Option.some.inj hy]
    exact hr
theorem open_places {H : Type} {enc : TypeId × Value → H} {w : World} {base : Nat} {held : Bool} {fuel : Nat} {v : Value} {x : DataW H × List MemPlace}
    (h : DataW.trod enc Try.prog w base (fun _ => true) held fuel 86 [v] = some x) : ∃ A n c xs, v = .slice A n c ∧ IsT w A n c xs ∧ c ≤ maxLen := by
  obtain ⟨A, n, c, xs, rfl, hL⟩ := open_list 1 (fun cs (b : Bool) => cs = [.bool b]) Try.underlying86 (by kernel_rfl) (by omega) (fun cs n y hcl ht => by
    obtain ⟨b, hb, _⟩ := DataW.trod_bool Try.underlying4 ht
    exact ⟨b, hb⟩) h
  refine ⟨A, n, c, xs, rfl, ⟨hL.len, hL.cap, ?_⟩, hL.max⟩
  rcases hL.src with h0 | ⟨b, o, hA, hc⟩
  · exact .inl h0
  · refine .inr ⟨b, o, hA, fun j x hj => ?_⟩
    obtain ⟨cs, hcl, hat, rfl⟩ := hc j x hj
    have := hat 0 _ rfl
    rwa [Nat.mul_one, Nat.add_zero] at this

theorem own : ownKnob Try.prog.godebug = none := by kernel_rfl
theorem laidOut : laidOutB Try.prog = true := by kernel_rfl
set_option maxRecDepth 100000 in
theorem lifted (os : Os) (started : os.Started) (H : Type) (enc : TypeId × Value → H) :
    ReturnsInHanded {} Try.checked os 13 .any (Rows.bytesPagesSpec.pre6 enc Try.prog Try.f13 Rows.bytesPagesRow.domain false) (Rows.bytesPagesSpec.post enc Try.prog Try.f13 false true false false) := by
  refine returnsInHanded_of_change (C := Try.checked) own started (by kernel_rfl) Try.func13
    (ChangeSpec.witness6 (enc := enc) (C := Try.checked) false ⟨#[], #[.slice none 0 0, .slice none 0 0, .slice none 0 0], []⟩ 8 (by kernel_rfl) (by kernel_rfl) (by kernel_rfl) (by kernel_rfl)) ?_
  intro W base args ds gs before hval0 hW hcnd _
  have hval : ∀ (j : Nat) t v, Try.f13.params[j]? = some t → args[j]? = some v → Value.okWide Try.prog W .any base t v := hval0
  have hW' := hW
  obtain ⟨p, q, hA0, hV, rfl, hfz, hnd⟩ := hW
  have hA : DataW.TrodAll enc Try.prog W 0 (fun _ => true) true Try.f13.params.toList args.toList ds p := hA0
  rw [Try.params13] at hA hval
  obtain ⟨v0, vs0, d0, ds0, p0, q0, hargs, rfl, rfl, h0, r0⟩ := trodAll_cons hA
  obtain ⟨v1, vs1, d1, ds1, p1, q1, rfl, rfl, rfl, h1, r1⟩ := trodAll_cons r0
  obtain ⟨v2, vs2, d2, ds2, p2, q2, rfl, rfl, rfl, h2, r2⟩ := trodAll_cons r1
  obtain ⟨rfl, rfl, rfl⟩ := trodAll_nil r2
  obtain rfl : args = #[v0, v1, v2] := by cases args; simp_all
  obtain ⟨rfl, rfl⟩ := trodVars_none hV
  have hlt : ∀ {t v d pp}, DataW.Trod enc Try.prog W 0 (fun _ => true) true t v d pp → ∀ x ∈ pp, x.block < W.heap.size := fun hk => by obtain ⟨m, hm⟩ := hk; exact DataW.trod_lt m _ _ _ hm
  obtain ⟨a0, n0, c0, rfl⟩ := okWide_slice Try.underlying85 (hval 0 85 v0 rfl rfl)
  obtain ⟨a1, n1, c1, rfl⟩ := okWide_slice Try.underlying85 (hval 1 85 v1 rfl rfl)
  obtain ⟨a2, n2, c2, rfl⟩ := okWide_slice Try.underlying86 (hval 2 86 v2 rfl rfl)
  have k0 := h0
  have k1 := h1
  have k2 := h2
  obtain ⟨f0, h0⟩ := h0
  obtain ⟨f1, h1⟩ := h1
  obtain ⟨f2, h2⟩ := h2
  obtain ⟨_, _, _, es, e0, E0, o0, m0⟩ := open_entries (by simpa [Value.cells] using h0)
  obtain ⟨_, _, _, os', e1, E1, o1, m1⟩ := open_entries (by simpa [Value.cells] using h1)
  obtain ⟨_, _, _, bs, e2, E2, m2⟩ := open_places (by simpa [Value.cells] using h2)
  simp only [Value.slice.injEq] at e0 e1 e2
  obtain ⟨rfl, rfl, rfl⟩ := e0
  obtain ⟨rfl, rfl, rfl⟩ := e1
  obtain ⟨rfl, rfl, rfl⟩ := e2
  clear hA0 hval0
  refine (pages_walk a0 n0 c0 es a1 n1 c1 os' a2 n2 c2 bs W E0 E1 E2 o0 o1 (Nat.le_trans E0.cap m0) (Nat.le_trans E1.cap m1) (Nat.le_trans E2.cap m2)).mono fun e W' ⟨he, bel⟩ => ?_
  subst he
  exact ⟨_, rfl, _, _, _, [], _, [], hW', trodAll_mk1 (shut_bool Try.underlying4 _), (trodAll_cons_mk (Below.trod laidOut (by kernel_rfl) (of_decide_eq_true (by kernel_rfl)) k0 bel (hlt k0)) (trodAll_cons_mk (Below.trod laidOut (by kernel_rfl) (of_decide_eq_true (by kernel_rfl)) k1 bel (hlt k1)) (trodAll_cons_mk (Below.trod laidOut (by kernel_rfl) (of_decide_eq_true (by kernel_rfl)) k2 bel (hlt k2)) trodAll_mk0))), rfl, bel.frame _, fun h => by cases h⟩

theorem proved : Rows.BytesPagesSaid :=
  OpenClaim.holds_of_wide 13 Try.f13 rfl rfl rfl rfl rfl rfl rfl ⟨rfl, rfl, rfl, rfl, rfl⟩ rfl rfl rfl rfl rfl (by kernel_rfl) Try.func13 (by kernel_rfl)
    (of_decide_eq_true (by kernel_rfl)) (by unfold Func.isWrapper; first | (rw [if_pos (by decide +kernel)]; kernel_rfl) | (rw [if_neg (by decide +kernel)]; exact ⟨rfl, rfl⟩))
    (fun os started H enc _ => lifted os started H enc)
#print axioms proved
end Go.Proofs.Ytdcflgblaljdeaa.bytesPages
