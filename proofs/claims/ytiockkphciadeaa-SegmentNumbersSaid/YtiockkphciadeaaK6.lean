/-
  Runs in memory, and what picks a column's number.
-/
import Derived.Test.YtiockkphciadeaaKSgScan
import Derived.Laws.EntriesVeiled
import Derived.Test.YtiockkphciadeaaK5
set_option linter.unusedVariables false
set_option linter.unusedSimpArgs false
namespace Go.Proofs.Ytiockkphciadeaa
open Go.RowKit
open Go.Lib (byteCells byteCells_length byteCells_append uvarint)

abbrev fnV (f : Nat) : Value := .func (.func f) #[] #[]
set_option maxRecDepth 100000 in
set_option maxHeartbeats 1000000 in
theorem columns_any (w : World) : Calls Try.prog 89 #[] w fun e w' => e = .returned (.agg #[fnV 110, fnV 111, fnV 112, fnV 113, fnV 114,
    fnV 115, fnV 116, fnV 117, fnV 118, fnV 119]) ∧ Below w.heap.size w w' := by
  go_enter Try.func89, Try.ntmps89
  go_wp2_with fail
  refine bodyPost_ret (v := .agg #[fnV 110, fnV 111, fnV 112, fnV 113, fnV 114,
    fnV 115, fnV 116, fnV 117, fnV 118, fnV 119]) (by simp [results, Try.results89, go_sem]) rfl ⟨rfl, (Below.refl _ _).alloc (Nat.le_refl _) _⟩
set_option maxRecDepth 100000 in
set_option maxHeartbeats 1000000 in
theorem pick_0 (x : Ev) (hx : x.op < 256) (w : World) : Calls Try.prog 110 #[.agg #[.int .i64 x.th, .int .u8 (x.op : Int), .int .i64 x.obj, .int .i64 x.a, .int .i64 x.b]] w fun e w' => e = .returned (.int .i64 x.th) ∧ Below w.heap.size w w' := by
  go_enter Try.func110, Try.ntmps110
  go_wp2_with fail
  go_ret
  exact ⟨rfl, (Below.refl _ _).alloc (Nat.le_refl _) _⟩
set_option maxRecDepth 100000 in
set_option maxHeartbeats 1000000 in
theorem pick_1 (x : Ev) (hx : x.op < 256) (w : World) : Calls Try.prog 112 #[.agg #[.int .i64 x.th, .int .u8 (x.op : Int), .int .i64 x.obj, .int .i64 x.a, .int .i64 x.b]] w fun e w' => e = .returned (.int .i64 (x.op : Int)) ∧ Below w.heap.size w w' := by
  have e0 : IntKind.i64.wrap (x.op : Int) = (x.op : Int) := by rw [IntKind.wrap_i64]; omega
  go_enter Try.func112, Try.ntmps112
  go_wp2_with fail
  go_ret
  exact ⟨rfl, (Below.refl _ _).alloc (Nat.le_refl _) _⟩
set_option maxRecDepth 100000 in
set_option maxHeartbeats 1000000 in
theorem pick_2 (x : Ev) (hx : x.op < 256) (w : World) : Calls Try.prog 114 #[.agg #[.int .i64 x.th, .int .u8 (x.op : Int), .int .i64 x.obj, .int .i64 x.a, .int .i64 x.b]] w fun e w' => e = .returned (.int .i64 x.obj) ∧ Below w.heap.size w w' := by
  go_enter Try.func114, Try.ntmps114
  go_wp2_with fail
  go_ret
  exact ⟨rfl, (Below.refl _ _).alloc (Nat.le_refl _) _⟩
set_option maxRecDepth 100000 in
set_option maxHeartbeats 1000000 in
theorem pick_3 (x : Ev) (hx : x.op < 256) (w : World) : Calls Try.prog 116 #[.agg #[.int .i64 x.th, .int .u8 (x.op : Int), .int .i64 x.obj, .int .i64 x.a, .int .i64 x.b]] w fun e w' => e = .returned (.int .i64 x.a) ∧ Below w.heap.size w w' := by
  go_enter Try.func116, Try.ntmps116
  go_wp2_with fail
  go_ret
  exact ⟨rfl, (Below.refl _ _).alloc (Nat.le_refl _) _⟩
set_option maxRecDepth 100000 in
set_option maxHeartbeats 1000000 in
theorem pick_4 (x : Ev) (hx : x.op < 256) (w : World) : Calls Try.prog 118 #[.agg #[.int .i64 x.th, .int .u8 (x.op : Int), .int .i64 x.obj, .int .i64 x.a, .int .i64 x.b]] w fun e w' => e = .returned (.int .i64 x.b) ∧ Below w.heap.size w w' := by
  go_enter Try.func118, Try.ntmps118
  go_wp2_with fail
  go_ret
  exact ⟨rfl, (Below.refl _ _).alloc (Nat.le_refl _) _⟩
def Run.cells (r : Run) : List Value := [.int .i64 r.1, .int .u64 (r.2 : Int)]
theorem infoRun : (Try.prog.info? 156).map (fun i => (i.zero, i.size, i.bytes)) = some (some (.agg #[.int .i64 0, .int .u64 0]), 2, 16) := by kernel_rfl
def OwnR (w : World) (base : Nat) (v : Value) (rs : List Run) : Prop := w.ownsRow base 156 2 v rs.length (rs.flatMap Run.cells)
theorem OwnR.nil (w : World) (base : Nat) : OwnR w base (.slice none 0 0) [] := World.ownsRow_nil w base _ 2
theorem OwnR.type {w : World} {base : Nat} {v : Value} {rs : List Run} (h : OwnR w base v rs) {b : Nat} (hb : v.ownBlock = some b) : ∃ cs, w.heap[b]? = some (.cells cs 156 (0, 0)) ∧ base ≤ b := by
  rcases h.2 with ⟨hv, _⟩ | ⟨g, cap, cur, hv, hbg, hg, hr⟩
  · rw [hv] at hb; cases hb
  · rw [hv] at hb
    have e : g = b := by injection hb
    subst e
    exact ⟨cur, hg, hbg⟩
theorem OwnR.away {F : Nat → Prop} {w w' : World} {base : Nat} {v : Value} {rs : List Run} (h : OwnR w base v rs) (ha : Away F w w') (hf : ∀ b, v.ownBlock = some b → ¬ F b) : OwnR w' base v rs := by
  refine ⟨h.1, ?_⟩
  rcases h.2 with hn | ⟨g, cap, cur, hv, hbg, hg, hr⟩
  · exact .inl hn
  · exact .inr ⟨g, cap, cur, hv, hbg, (ha.block g (Array.getElem?_eq_some_iff.1 hg).1 (hf g (by rw [hv]; rfl))).trans hg, hr⟩
theorem OwnR.below {w w' : World} {base : Nat} {v : Value} {rs : List Run} (h : OwnR w base v rs) (hb : Below w.heap.size w w') : OwnR w' base v rs :=
  h.away (Away.of_new hb (fun _ => False)) fun _ _ f => f
theorem OwnR.mono {w : World} {base base' : Nat} {v : Value} {rs : List Run} (h : OwnR w base v rs) (hb : base' ≤ base) : OwnR w base' v rs := by
  refine ⟨h.1, ?_⟩
  rcases h.2 with hn | ⟨g, cap, cur, hv, hbg, hr⟩
  · exact .inl hn
  · exact .inr ⟨g, cap, cur, hv, by omega, hr⟩
theorem OwnR.form {w : World} {base : Nat} {v : Value} {rs : List Run} (h : OwnR w base v rs) : ∃ A c, v = .slice A rs.length c ∧ rs.length ≤ c := by
  rcases h.2 with ⟨hv, hn⟩ | ⟨g, cap, cur, hv, _, _, hnc, _⟩
  · exact ⟨none, 0, by rw [hv, hn], by omega⟩
  · exact ⟨_, cap, hv, hnc⟩
theorem OwnR.len {w : World} {base : Nat} {A : Option Addr} {n c : Nat} {rs : List Run} (h : OwnR w base (.slice A n c) rs) : n = rs.length ∧ n ≤ c := by
  obtain ⟨A', c', hv, hc⟩ := h.form
  simp only [Value.slice.injEq] at hv
  exact ⟨hv.2.1, by rw [hv.2.1, hv.2.2]; exact hc⟩
theorem flatRun : ∀ (xs : List Run) (j : Nat) (p : Run), xs[j]? = some p → ∀ f, f < 2 → (xs.flatMap Run.cells)[j * 2 + f]? = p.cells[f]?
  | [], _, _, h, _, _ => by simp at h
  | x :: r, 0, p, h, f, hf => by
    simp only [List.getElem?_cons_zero, Option.some.injEq] at h
    subst h
    rw [List.flatMap_cons, List.getElem?_append_left (by simp [Run.cells]; omega), Nat.zero_mul, Nat.zero_add]
  | x :: r, j + 1, p, h, f, hf => by
    rw [List.getElem?_cons_succ] at h
    rw [List.flatMap_cons, List.getElem?_append_right (by simp [Run.cells]; omega)]
    rw [← flatRun r j p h f hf]
    congr 1
    simp [Run.cells]; omega
theorem OwnR.at_ {w : World} {base : Nat} {A : Option Addr} {n c : Nat} {rs : List Run} (h : OwnR w base (.slice A n c) rs) {j : Nat} {r : Run} (hj : rs[j]? = some r) :
    ∃ g, A = some ⟨g, 0, none⟩ ∧ w.cell? ⟨g, j * 2, none⟩ = some (.int .i64 r.1) ∧ w.cell? ⟨g, j * 2 + 1, none⟩ = some (.int .u64 (r.2 : Int)) ∧ ∃ cs, w.heap[g]? = some (.cells cs 156 (0, 0)) := by
  have hi := (List.getElem?_eq_some_iff.1 hj).1
  have hrow := h
  rcases h.2 with ⟨hv, hn⟩ | ⟨g, cap, cur, hv, _, hg, _⟩
  · omega
  · have hv' := hv
    simp only [Value.slice.injEq] at hv'
    rw [hv] at hrow
    have h0 := World.ownsRow.cells (g := g) hrow rfl (j * 2 + 0) _ ((flatRun rs j r hj 0 (by omega)).trans rfl)
    have h1 := World.ownsRow.cells (g := g) hrow rfl (j * 2 + 1) _ ((flatRun rs j r hj 1 (by omega)).trans rfl)
    refine ⟨g, hv'.1, ?_, ?_, cur, hg⟩
    · simpa [Addr.add_lit] using h0
    · simpa [Addr.add_lit] using h1
theorem Run.one (x : Run) : ∀ u ∈ x.cells, u.oneCell' = true := by
  intro u hu
  simp [Run.cells] at hu
  rcases hu with rfl | rfl <;> rfl
theorem or_append {w : World} {base : Nat} {A : Option Addr} {n c : Nat} {rs : List Run} (h : OwnR w base (.slice A n c) rs) (hb : base ≤ w.heap.size) (ty : TypeId) (x : Run) {bb : Nat}
    (hc : w.heap[bb]? = some (.cells #[.int .i64 x.1, .int .u64 (x.2 : Int)] 156 (0, 0))) (hl : rs.length ≤ 2000000) :
    ∃ v' w', (Builtin.append_ #[153, 153] ty #[.slice A n c, .slice (some ⟨bb, 0, none⟩) 1 1]).run Try.prog w = .ok v' w' ∧ ∃ A' c', v' = .slice A' (n + 1) c' ∧ OwnR w' base (.slice A' (n + 1) c') (rs ++ [x]) ∧
      Away (fun b => (Value.slice A n c).ownBlock = some b) w w' := by
  obtain ⟨i0, h2, h3, h4, h5⟩ := info_parts infoRun
  have hc' : ∀ j u, x.cells[j]? = some u → w.cell? ((⟨bb, 0, none⟩ : Addr).add j) = some u := by
    intro j u hj
    rw [Addr.add_lit, Nat.zero_add, cell_of_row w bb j _ _ _ hc]
    rw [← hj]
    simp [Run.cells]
  have hn : n = rs.length := h.len.1
  obtain ⟨v', w', hr, hown, hgr, _, hat⟩ := run_append_own_at (P := Try.prog) (w := w) base 153 ty 156 i0 (.agg #[.int .i64 0, .int .u64 0]) 2 16 Try.underlying153 h2 h3 h4 h5 rfl (by decide) (.slice A n c) rs.length (rs.flatMap Run.cells) h ⟨bb, 0, none⟩ 1 1 x.cells rfl
    hc' (Run.one x) (by unfold maxLen; omega) (by omega) hb
  have hown2 := hown
  rcases hown2.2 with ⟨_, hn'⟩ | ⟨g, cap, cur, rfl, _, _, _⟩
  · omega
  refine ⟨_, w', hr, _, cap, by rw [hn], ?_, ?_⟩
  · unfold OwnR
    rw [List.flatMap_append, List.length_append, hn]
    simpa using hown
  · exact (Away.of_grown hgr)
theorem run_flat_len : ∀ rs : List Run, (rs.flatMap Run.cells).length = rs.length * 2
  | [] => rfl
  | x :: r => by
    rw [List.flatMap_cons, List.length_append, run_flat_len r, List.length_cons]
    show 2 + _ = _
    omega
theorem or_put {w : World} {base : Nat} {g n c : Nat} {rs : List Run} {s : Int} {m : Nat} (h : OwnR w base (.slice (some ⟨g, 0, none⟩) n c) (rs ++ [(s, m)])) (q : Int) (hq : ((m + 1 : Nat) : Int) = q) :
    OwnR (w.setCell ⟨g, rs.length * 2 + 1, none⟩ (.int .u64 q)) base (.slice (some ⟨g, 0, none⟩) n c) (rs ++ [(s, m + 1)]) := by
  subst hq
  unfold OwnR at h ⊢
  have hl : (rs ++ [(s, m + 1)]).length = (rs ++ [(s, m)]).length := by rw [List.length_append, List.length_append]; rfl
  have hs : (rs ++ [(s, m + 1)]).flatMap Run.cells = ((rs ++ [(s, m)]).flatMap Run.cells).set (rs.length * 2 + 1) (.int .u64 ((m + 1 : Nat) : Int)) := by
    rw [List.flatMap_append, List.flatMap_append, List.set_append_right _ _ (by rw [run_flat_len]; omega), run_flat_len, show rs.length * 2 + 1 - rs.length * 2 = 1 by omega]
    rfl
  rw [hl, hs]
  refine ⟨by rw [List.length_set]; exact h.1, ?_⟩
  rcases h.2 with ⟨hn, _⟩ | ⟨g', cap, cur, hv, hbg, hg, hnc, hcm, hcs, htake⟩
  · cases hn
  · simp only [Value.slice.injEq, Option.some.injEq, Addr.mk.injEq, and_true] at hv
    obtain ⟨rfl, rfl, rfl⟩ := hv
    refine .inr ⟨g, c, cur.setIfInBounds (rs.length * 2 + 1) (.int .u64 ((m + 1 : Nat) : Int)), rfl, hbg, ?_, hnc, hcm, by rw [Array.size_setIfInBounds, hcs], ?_⟩
    · simp [World.setCell, Array.getElem?_modify, hg]
    · rw [Array.toList_setIfInBounds, List.take_set, htake]
end Go.Proofs.Ytiockkphciadeaa

/-
  Reading a column: a run, and what lays a number into an event.
-/
set_option linter.unusedVariables false
set_option linter.unusedSimpArgs false
namespace Go.Proofs.Ytiockkphciadeaa
open Go.RowKit
open Go.Lib (byteCells byteCells_length byteCells_append uvarint)

def ansR : Option (Int × Nat × Nat) → Value
  | none => .tuple #[.agg #[.int .i64 0, .int .u64 0], .int .i64 0, .bool false]
  | some q => .tuple #[.agg #[.int .i64 q.1, .int .u64 (q.2.1 : Int)], .int .i64 (q.2.2 : Int), .bool true]
set_option maxRecDepth 100000 in
set_option maxHeartbeats 1000000 in
theorem readRun_any (A : Option Addr) (n c k : Nat) (l : List UInt8) (w : World) (h : IsB w A n c l) (hn : n ≤ 1000000) (hk : k ≤ n) :
    Calls Try.prog 129 #[.slice A n c, .int .i64 (k : Int)] w fun e w' => e = .returned (ansR (rdRun l k)) ∧ Below w.heap.size w w' := by
  have hb1 : Below w.heap.size w (w.alloc (.cells #[.int .i64 0, .int .u64 0] 156)) := (Below.refl _ _).alloc (Nat.le_refl _) _
  have hI := h.below hb1
  have h1 := getInt_any A n c k l (w.alloc (.cells #[.int .i64 0, .int .u64 0] 156)) hI (by omega) hk
  have hun : rdRun l k = (if (getU (l.drop k)).2.2 ≠ 0 then none
  else if (getU (l.drop (k + (getU (l.drop k)).2.1))).2.2 ≠ 0 ∨ (getU (l.drop (k + (getU (l.drop k)).2.1))).1 = 0 then none
  else some (Lib.unzigzag (getU (l.drop k)).1, (getU (l.drop (k + (getU (l.drop k)).2.1))).1, k + (getU (l.drop k)).2.1 + (getU (l.drop (k + (getU (l.drop k)).2.1))).2.1)) := rfl
  rw [hun]
  clear hun
  have hs := fun (h0 : (getU (l.drop k)).2.2 = 0) => getU_sound (show getU (l.drop k) = ((getU (l.drop k)).1, (getU (l.drop k)).2.1, 0) from Prod.ext rfl (Prod.ext rfl h0))
  have hll := h.len
  generalize getU (l.drop k) = q at h1 hs ⊢
  obtain ⟨v, j, f⟩ := q
  unfold ansI nextU at h1
  simp only at h1 hs ⊢
  by_cases hf : f ≠ 0
  · rw [if_pos hf]
    rw [if_neg hf] at h1
    have d1 : ((f : Int) != 0) = true := by simp; omega
    have H1 := Lib.hid h1
    have HB := Lib.hid hb1
    clear h h1 hI hs hf hb1
    go_enter Try.func129, Try.ntmps129
    go_wp2_with fail
    refine H1.out.mono ?_
    rintro e w' ⟨rfl, rfl⟩
    go_wp2_with fail
    refine bodyPost_ret (v := ansR none) (by simp [results, Try.results129, go_sem, ansR]) rfl ⟨rfl, ?_⟩
    first | exact HB.out | exact (Below.refl _ _).alloc (Nat.le_refl _) _
  · have hf : f = 0 := by omega
    subst hf
    rw [if_pos rfl] at h1
    rw [if_neg (by simp)]
    obtain ⟨r, hr1, hr2⟩ := hs rfl
    have hkj : k + j ≤ n := by
      have := congrArg List.length hr1
      rw [List.length_drop, List.length_append, ← hr2] at this
      omega
    have h2 := getUint_any A n c (k + j) l (w.alloc (.cells #[.int .i64 0, .int .u64 0] 156)) hI (by omega) hkj
    have hl2 := getU_lt (l.drop (k + j))
    generalize getU (l.drop (k + j)) = q2 at h2 hl2 ⊢
    obtain ⟨v2, j2, f2⟩ := q2
    unfold ansU nextU at h2
    simp only at h2 hl2 ⊢
    have d1 : (((0 : Nat) : Int) != 0) = false := by simp
    obtain ⟨kk, hkk⟩ : ∃ kk : Nat, Hid (kk = k + j) := ⟨_, rfl⟩
    rw [← hkk.out] at h1 h2 ⊢
    by_cases hf2 : f2 ≠ 0
    · rw [if_pos (.inl hf2)]
      rw [if_neg hf2] at h2
      have d2 : ((f2 : Int) != 0) = true := by simp; omega
      have H1 := Lib.hid h1
      have H2 := Lib.hid h2
      clear h h1 h2 hI hs hf hb1 hf2 hr1
      go_enter Try.func129, Try.ntmps129
      go_wp2_with fail
      refine H1.out.mono ?_
      rintro e w' ⟨rfl, rfl⟩
      go_wp2_with fail
      refine H2.out.mono ?_
      rintro e w' ⟨rfl, rfl⟩
      go_wp2_with fail
      refine bodyPost_ret (v := ansR none) (by simp [results, Try.results129, go_sem, ansR]) rfl ⟨rfl, (Below.refl _ _).alloc (Nat.le_refl _) _⟩
    · have hf2 : f2 = 0 := by omega
      subst hf2
      rw [if_pos rfl] at h2
      by_cases hz : v2 = 0
      · rw [if_pos (.inr hz)]
        subst hz
        have H1 := Lib.hid h1
        have H2 := Lib.hid h2
        clear h h1 h2 hI hs hf hb1 hr1
        go_enter Try.func129, Try.ntmps129
        go_wp2_with fail
        refine H1.out.mono ?_
        rintro e w' ⟨rfl, rfl⟩
        go_wp2_with fail
        refine H2.out.mono ?_
        rintro e w' ⟨rfl, rfl⟩
        go_wp2_with fail
        refine bodyPost_ret (v := ansR none) (by simp [results, Try.results129, go_sem, ansR]) rfl ⟨rfl, (Below.refl _ _).alloc (Nat.le_refl _) _⟩
      · rw [if_neg (by omega)]
        have d3 : ((v2 : Int) == 0) = false := beq_eq_false_iff_ne.2 (by omega)
        have H1 := Lib.hid h1
        have H2 := Lib.hid h2
        clear h h1 h2 hI hs hf hb1 hr1 hz
        go_enter Try.func129, Try.ntmps129
        go_wp2_with fail
        refine H1.out.mono ?_
        rintro e w' ⟨rfl, rfl⟩
        go_wp2_with fail
        refine H2.out.mono ?_
        rintro e w' ⟨rfl, rfl⟩
        go_wp2_with fail
        refine bodyPost_ret (v := ansR (some (Lib.unzigzag v, v2, kk + j2))) (by simp [results, Try.results129, go_sem, ansR]) rfl ⟨rfl, (Below.refl _ _).alloc (Nat.le_refl _) _⟩

/-- events in a block of their own -/
def EvB (w : World) (g : Nat) (es : List Ev) : Prop := w.heap[g]? = some (.cells (es.flatMap Ev.cells).toArray 54 (0, 0))
theorem EvB.away {F : Nat → Prop} {w w' : World} {g : Nat} {es : List Ev} (h : EvB w g es) (ha : Away F w w') (hf : ¬ F g) : EvB w' g es :=
  (ha.block g (Array.getElem?_eq_some_iff.1 h).1 hf).trans h
theorem EvB.cell {w : World} {g : Nat} {es : List Ev} (h : EvB w g es) {j : Nat} {x : Ev} (hx : es[j]? = some x) {f : Nat} {u : Value} (hf : f < 5) (hu : x.cells[f]? = some u) : w.cell? ⟨g, j * 5 + f, none⟩ = some u := by
  rw [cell_of_row w g _ _ _ _ h, List.getElem?_toArray, flatEv es j x hx f hf, hu]
theorem flat_set : ∀ (es : List Ev) (q f : Nat) (x y : Ev) (u : Value), es[q]? = some x → f < 5 → y.cells = x.cells.set f u → (es.set q y).flatMap Ev.cells = (es.flatMap Ev.cells).set (q * 5 + f) u
  | [], _, _, _, _, _, h, _, _ => by simp at h
  | e :: es, 0, f, x, y, u, h, hf, hy => by
    simp only [List.getElem?_cons_zero, Option.some.injEq] at h
    subst h
    rw [List.set_cons_zero, List.flatMap_cons, List.flatMap_cons, hy, Nat.zero_mul, Nat.zero_add, List.set_append_left _ _ (by simp [Ev.cells]; omega)]
  | e :: es, q + 1, f, x, y, u, h, hf, hy => by
    rw [List.getElem?_cons_succ] at h
    rw [List.set_cons_succ, List.flatMap_cons, List.flatMap_cons, flat_set es q f x y u h hf hy, List.set_append_right _ _ (by simp [Ev.cells]; omega)]
    congr 2
    simp [Ev.cells]; omega
theorem EvB.set {w : World} {g : Nat} {es : List Ev} (h : EvB w g es) {q f : Nat} {x y : Ev} {u : Value} (hx : es[q]? = some x) (hf : f < 5) (hy : y.cells = x.cells.set f u) : EvB (w.setCell ⟨g, q * 5 + f, none⟩ u) g (es.set q y) := by
  unfold EvB
  rw [set_blk h, flat_set es q f x y u hx hf hy, List.setIfInBounds_toArray]
set_option maxRecDepth 100000 in
set_option maxHeartbeats 1000000 in
theorem lay_0 {w : World} {g p : Nat} {u : Value} {cs : Array Value} {t : TypeId} (hg : w.heap[g]? = some (.cells cs t (0, 0))) (hc : w.cell? ⟨g, p, none⟩ = some u) (v : Int) : Calls Try.prog 111 #[.pointer (some ⟨g, p, none⟩), .int .i64 v] w fun e w' => e = .returned (.tuple #[]) ∧ w' = w.setCell ⟨g, p, none⟩ (.int .i64 v) := by
  have yf := free_of_row hg (p)
  clear hg
  go_enter Try.func111, Try.ntmps111
  go_wp2_with fail
  refine bodyPost_end (v := .tuple #[]) (by simp [results, Try.results111, go_sem]) rfl ⟨rfl, rfl⟩
set_option maxRecDepth 100000 in
set_option maxHeartbeats 1000000 in
theorem lay_1 {w : World} {g p : Nat} {u : Value} {cs : Array Value} {t : TypeId} (hg : w.heap[g]? = some (.cells cs t (0, 0))) (hc : w.cell? ⟨g, p + 1, none⟩ = some u) (v : Int) : Calls Try.prog 113 #[.pointer (some ⟨g, p, none⟩), .int .i64 v] w fun e w' => e = .returned (.tuple #[]) ∧ w' = w.setCell ⟨g, p + 1, none⟩ (.int .u8 (v % 256)) := by
  have yf := free_of_row hg (p + 1)
  have e0 : IntKind.u8.wrap v = v % 256 := by rw [IntKind.wrap_u8]
  clear hg
  go_enter Try.func113, Try.ntmps113
  go_wp2_with fail
  refine bodyPost_end (v := .tuple #[]) (by simp [results, Try.results113, go_sem]) rfl ⟨rfl, rfl⟩
set_option maxRecDepth 100000 in
set_option maxHeartbeats 1000000 in
theorem lay_2 {w : World} {g p : Nat} {u : Value} {cs : Array Value} {t : TypeId} (hg : w.heap[g]? = some (.cells cs t (0, 0))) (hc : w.cell? ⟨g, p + 2, none⟩ = some u) (v : Int) : Calls Try.prog 115 #[.pointer (some ⟨g, p, none⟩), .int .i64 v] w fun e w' => e = .returned (.tuple #[]) ∧ w' = w.setCell ⟨g, p + 2, none⟩ (.int .i64 v) := by
  have yf := free_of_row hg (p + 2)
  clear hg
  go_enter Try.func115, Try.ntmps115
  go_wp2_with fail
  refine bodyPost_end (v := .tuple #[]) (by simp [results, Try.results115, go_sem]) rfl ⟨rfl, rfl⟩
set_option maxRecDepth 100000 in
set_option maxHeartbeats 1000000 in
theorem lay_3 {w : World} {g p : Nat} {u : Value} {cs : Array Value} {t : TypeId} (hg : w.heap[g]? = some (.cells cs t (0, 0))) (hc : w.cell? ⟨g, p + 3, none⟩ = some u) (v : Int) : Calls Try.prog 117 #[.pointer (some ⟨g, p, none⟩), .int .i64 v] w fun e w' => e = .returned (.tuple #[]) ∧ w' = w.setCell ⟨g, p + 3, none⟩ (.int .i64 v) := by
  have yf := free_of_row hg (p + 3)
  clear hg
  go_enter Try.func117, Try.ntmps117
  go_wp2_with fail
  refine bodyPost_end (v := .tuple #[]) (by simp [results, Try.results117, go_sem]) rfl ⟨rfl, rfl⟩
set_option maxRecDepth 100000 in
set_option maxHeartbeats 1000000 in
theorem lay_4 {w : World} {g p : Nat} {u : Value} {cs : Array Value} {t : TypeId} (hg : w.heap[g]? = some (.cells cs t (0, 0))) (hc : w.cell? ⟨g, p + 4, none⟩ = some u) (v : Int) : Calls Try.prog 119 #[.pointer (some ⟨g, p, none⟩), .int .i64 v] w fun e w' => e = .returned (.tuple #[]) ∧ w' = w.setCell ⟨g, p + 4, none⟩ (.int .i64 v) := by
  have yf := free_of_row hg (p + 4)
  clear hg
  go_enter Try.func119, Try.ntmps119
  go_wp2_with fail
  refine bodyPost_end (v := .tuple #[]) (by simp [results, Try.results119, go_sem]) rfl ⟨rfl, rfl⟩
theorem zeros_flat : ∀ n, ((List.replicate n Ev.zero).flatMap Ev.cells) = (List.replicate n Ev.zero.cells).flatten
  | n => by rw [List.flatMap_replicate]
end Go.Proofs.Ytiockkphciadeaa
