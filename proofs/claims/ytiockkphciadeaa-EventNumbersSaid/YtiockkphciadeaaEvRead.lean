/-
  What a frame's body is of, and Read.
-/
import Derived.Test.YtiockkphciadeaaEvGet
set_option linter.unusedVariables false
set_option linter.unusedSimpArgs false
namespace Go.Proofs.Ytiockkphciadeaa
open Go.RowKit
open Go.Lib (byteCells byteCells_length byteCells_append uvarint)

theorem Get_any (A : Option Addr) (n c k : Nat) (l : List UInt8) (p : Ev) (w : World) (h : IsB w A n c l) (hn : n ≤ 1000000) (hk : k ≤ n) :
    Calls Try.prog 29 #[.slice A n c, .int .i64 (k : Int), .agg #[.int .i64 p.th, .int .u8 (p.op : Int), .int .i64 p.obj, .int .i64 p.a, .int .i64 p.b]] w fun e w' => e = .returned (ansE (getEv p l k)) ∧ Below w.heap.size w w' := by
  by_cases hkn : k = n
  · subst hkn
    exact Get_end A k c l p w h.len
  · exact Get_in A n c k l p w h hn (by omega)

theorem infoEv : (Try.prog.info? 54).map (fun i => (i.zero, i.size, i.bytes)) = some (some (.agg #[.int .i64 0, .int .u8 0, .int .i64 0, .int .i64 0, .int .i64 0]), 5, 40) := by kernel_rfl
/-- a list of events that a call put together itself -/
def OwnE (w : World) (base : Nat) (v : Value) (es : List Ev) : Prop := w.ownsRow base 54 5 v es.length (es.flatMap Ev.cells)
theorem OwnE.nil (w : World) (base : Nat) : OwnE w base (.slice none 0 0) [] := World.ownsRow_nil w base _ 5
theorem OwnE.mono {w : World} {base base' : Nat} {v : Value} {es : List Ev} (h : OwnE w base v es) (hb : base' ≤ base) : OwnE w base' v es := by
  refine ⟨h.1, ?_⟩
  rcases h.2 with hn | ⟨g, cap, cur, hv, hbg, hr⟩
  · exact .inl hn
  · exact .inr ⟨g, cap, cur, hv, Nat.le_trans hb hbg, hr⟩
theorem OwnE.below {w w' : World} {base : Nat} {v : Value} {es : List Ev} (h : OwnE w base v es) (hb : Below w.heap.size w w') : OwnE w' base v es := by
  refine ⟨h.1, ?_⟩
  rcases h.2 with hn | ⟨g, cap, cur, hv, hbg, hg, hr⟩
  · exact .inl hn
  · exact .inr ⟨g, cap, cur, hv, hbg, (hb.block g (Array.getElem?_eq_some_iff.1 hg).1).trans hg, hr⟩
/-- the block of a list's own is of events -/
theorem OwnE.type {w : World} {base : Nat} {v : Value} {es : List Ev} (h : OwnE w base v es) {b : Nat} (hb : v.ownBlock = some b) : ∃ cs, w.heap[b]? = some (.cells cs 54 (0, 0)) ∧ base ≤ b := by
  rcases h.2 with ⟨hv, _⟩ | ⟨g, cap, cur, hv, hbg, hg, hr⟩
  · rw [hv] at hb; cases hb
  · rw [hv] at hb
    have e : g = b := by injection hb
    subst e
    exact ⟨cur, hg, hbg⟩
theorem OwnE.away {F : Nat → Prop} {w w' : World} {base : Nat} {v : Value} {es : List Ev} (h : OwnE w base v es) (ha : Away F w w') (hf : ∀ b, v.ownBlock = some b → ¬ F b) : OwnE w' base v es := by
  refine ⟨h.1, ?_⟩
  rcases h.2 with hn | ⟨g, cap, cur, hv, hbg, hg, hr⟩
  · exact .inl hn
  · exact .inr ⟨g, cap, cur, hv, hbg, (ha.block g (Array.getElem?_eq_some_iff.1 hg).1 (hf g (by rw [hv]; rfl))).trans hg, hr⟩
theorem Ev.one (x : Ev) : ∀ u ∈ x.cells, u.oneCell' = true := by
  intro u hu
  simp [Ev.cells] at hu
  rcases hu with rfl | rfl | rfl | rfl | rfl <;> rfl
theorem flatEv : ∀ (xs : List Ev) (j : Nat) (p : Ev), xs[j]? = some p → ∀ f, f < 5 → (xs.flatMap Ev.cells)[j * 5 + f]? = p.cells[f]?
  | [], _, _, h, _, _ => by simp at h
  | x :: r, 0, p, h, f, hf => by
    simp only [List.getElem?_cons_zero, Option.some.injEq] at h
    subst h
    rw [List.flatMap_cons, List.getElem?_append_left (by simp [Ev.cells]; omega), Nat.zero_mul, Nat.zero_add]
  | x :: r, j + 1, p, h, f, hf => by
    rw [List.getElem?_cons_succ] at h
    rw [List.flatMap_cons, List.getElem?_append_right (by simp [Ev.cells]; omega)]
    rw [← flatEv r j p h f hf]
    congr 1
    simp [Ev.cells]; omega
theorem OwnE.is_ {w : World} {base : Nat} {v : Value} {es : List Ev} (h : OwnE w base v es) : ∃ A n c, v = .slice A n c ∧ IsEv w A n c es ∧ n = es.length ∧ c ≤ maxLen := by
  have hrow := h
  rcases h.2 with ⟨hv, hn⟩ | ⟨g, cap, cur, hv, hbg, hg, hnc, hcm, hcs, htake⟩
  · have : es = [] := List.eq_nil_of_length_eq_zero hn
    subst this
    exact ⟨none, 0, 0, hv, IsEv.nil w, rfl, Nat.zero_le _⟩
  · refine ⟨_, _, _, hv, ⟨rfl, hnc, (fun e => by cases e), .inr ⟨g, 0, rfl, fun j x hj f u hu => ?_⟩⟩, rfl, hcm⟩
    subst hv
    have hf5 : f < 5 := (List.getElem?_eq_some_iff.1 hu).1
    have := World.ownsRow.cells (g := g) hrow rfl (j * 5 + f) u ((flatEv es j x hj f hf5).trans hu)
    simpa [Addr.add_lit, Nat.add_assoc] using this
theorem oe_append {w : World} {base : Nat} {A : Option Addr} {n c : Nat} {es : List Ev} (h : OwnE w base (.slice A n c) es) (hb : base ≤ w.heap.size) (ty : TypeId) (x : Ev) {bb : Nat}
    (hc : w.heap[bb]? = some (.cells #[.int .i64 x.th, .int .u8 (x.op : Int), .int .i64 x.obj, .int .i64 x.a, .int .i64 x.b] 54 (0, 0))) (hl : es.length ≤ 100000) :
    ∃ v' w', (Builtin.append_ #[60, 60] ty #[.slice A n c, .slice (some ⟨bb, 0, none⟩) 1 1]).run Try.prog w = .ok v' w' ∧ ∃ A' c', v' = .slice A' (n + 1) c' ∧ OwnE w' base (.slice A' (n + 1) c') (es ++ [x]) ∧
      Away (fun b => (Value.slice A n c).ownBlock = some b) w w' := by
  obtain ⟨i0, h2, h3, h4, h5⟩ := info_parts infoEv
  have hc' : ∀ j u, x.cells[j]? = some u → w.cell? ((⟨bb, 0, none⟩ : Addr).add j) = some u := by
    intro j u hj
    rw [Addr.add_lit, Nat.zero_add, cell_of_row w bb j _ _ _ hc]
    rw [← hj]
    simp [Ev.cells]
  have hn : n = es.length := by
    rcases h.2 with ⟨hv, hn⟩ | ⟨g, cap, cur, hv, _⟩
    · simp only [Value.slice.injEq] at hv; omega
    · simp only [Value.slice.injEq] at hv; omega
  obtain ⟨v', w', hr, hown, hgr, _, hat⟩ := run_append_own_at (P := Try.prog) (w := w) base 60 ty 54 i0 (.agg #[.int .i64 0, .int .u8 0, .int .i64 0, .int .i64 0, .int .i64 0]) 5 40 Try.underlying60 h2 h3 h4 h5 rfl (by decide) (.slice A n c) es.length (es.flatMap Ev.cells) h ⟨bb, 0, none⟩ 1 1 x.cells rfl
    hc' (Ev.one x) (by unfold maxLen; omega) (by omega) hb
  have hown2 := hown
  rcases hown2.2 with ⟨_, hn'⟩ | ⟨g, cap, cur, rfl, _, _, _⟩
  · omega
  refine ⟨_, w', hr, _, cap, by rw [hn], ?_, ?_⟩
  · unfold OwnE
    rw [List.flatMap_append, List.length_append, hn]
    simpa using hown
  · exact (Away.of_grown hgr)
end Go.Proofs.Ytiockkphciadeaa
