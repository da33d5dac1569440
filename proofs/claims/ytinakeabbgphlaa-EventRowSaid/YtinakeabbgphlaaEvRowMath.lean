/-
  Frames one behind the other: plain facts, and the numbers and rows of EventRow in memory.
-/
import Derived.Test.YtinakeabbgphlaaEvBack
import Derived.Test.YtinakeabbgphlaaOpen
set_option linter.unusedVariables false
namespace Go.Proofs.Ytinakeabbgphlaa
open Go.RowKit
open Go.Lib (byteCells byteCells_length byteCells_append uvarint)

def bytesF : List Ev → List UInt8
  | [] => []
  | x :: r => frameOf (x :: r)
def rowF : List (List Ev) → List UInt8
  | [] => []
  | f :: r => bytesF f ++ rowF r
def cntF : List (List Ev) → Nat
  | [] => 0
  | f :: r => (if f.length = 0 then 0 else 1) + cntF r
theorem rowF_append : ∀ (a b : List (List Ev)), rowF (a ++ b) = rowF a ++ rowF b
  | [], b => rfl
  | f :: a, b => by
    show bytesF f ++ rowF (a ++ b) = (bytesF f ++ rowF a) ++ rowF b
    rw [rowF_append a b, List.append_assoc]
theorem cntF_append : ∀ (a b : List (List Ev)), cntF (a ++ b) = cntF a + cntF b
  | [], b => by simp [cntF]
  | f :: a, b => by
    show (if f.length = 0 then 0 else 1) + cntF (a ++ b) = ((if f.length = 0 then 0 else 1) + cntF a) + cntF b
    rw [cntF_append a b, Nat.add_assoc]
theorem take_one {α : Type} {l : List α} {j : Nat} {x : α} (hx : l[j]? = some x) : l.take (j + 1) = l.take j ++ [x] := by
  obtain ⟨hj, ex⟩ := List.getElem?_eq_some_iff.1 hx
  rw [List.take_succ_eq_append_getElem hj, ex]
theorem rowF_step {fs : List (List Ev)} {j : Nat} {f : List Ev} (hx : fs[j]? = some f) : rowF (fs.take (j + 1)) = rowF (fs.take j) ++ bytesF f := by
  rw [take_one hx, rowF_append]
  simp [rowF]
theorem cntF_step {fs : List (List Ev)} {j : Nat} {f : List Ev} (hx : fs[j]? = some f) : cntF (fs.take (j + 1)) = cntF (fs.take j) + (if f.length = 0 then 0 else 1) := by
  rw [take_one hx, cntF_append]
  simp [cntF]
theorem cntF_mono (fs : List (List Ev)) {i j : Nat} (h : i ≤ j) : cntF (fs.take i) ≤ cntF (fs.take j) := by
  have e : fs.take j = fs.take i ++ (fs.take j).drop i := by
    conv => lhs; rw [← List.take_append_drop i (fs.take j), List.take_take, Nat.min_eq_left h]
  rw [e, cntF_append]
  omega
theorem bytesF_some {f : List Ev} (h : 1 ≤ f.length) : bytesF f = frameOf f := by
  cases f with
  | nil => simp at h
  | cons x r => rfl
theorem frame_small {f : List Ev} (h : f.length ≤ 30) : (bytesF f).length ≤ 1300 := by
  cases f with
  | nil => simp [bytesF]
  | cons x r =>
    show (frameOf (x :: r)).length ≤ 1300
    have h1 := encEvs_most (x :: r) Ev.zero
    have h2 := Lib.uvarint_length64 (x := (x :: r).length) (by omega)
    have h3 : (bodyOf (x :: r)).length ≤ 1240 := by
      unfold bodyOf; rw [List.length_append]; omega
    have h4 := Lib.uvarint_length64 (x := (bodyOf (x :: r)).length) (by omega)
    rw [frameOf_length]
    omega
theorem rowF_most : ∀ (fs : List (List Ev)), (∀ f ∈ fs, f.length ≤ 30) → (rowF fs).length ≤ 1300 * fs.length
  | [], _ => by simp [rowF]
  | f :: r, h => by
    have h1 := frame_small (h f (by simp))
    have h2 := rowF_most r fun g hg => h g (by simp [hg])
    show (bytesF f ++ rowF r).length ≤ 1300 * (r.length + 1)
    rw [List.length_append]
    omega
/-- where the frames end -/
def EndsOK (fs : List (List Ev)) (j : Nat) (E : List Nat) : Prop := E.length = cntF (fs.take j) + 1 ∧ ∀ i, i ≤ j → E[cntF (fs.take i)]? = some (rowF (fs.take i)).length
theorem ends_start (fs : List (List Ev)) : EndsOK fs 0 [0] := ⟨rfl, fun i hi => by
  obtain rfl : i = 0 := by omega
  simp [cntF, rowF]⟩
theorem ends_none {fs : List (List Ev)} {j : Nat} {f : List Ev} {E : List Nat} (h : EndsOK fs j E) (hx : fs[j]? = some f) (hf : f.length = 0) : EndsOK fs (j + 1) E := by
  have hr := rowF_step hx
  have hc := cntF_step hx
  obtain rfl : f = [] := List.eq_nil_of_length_eq_zero hf
  have hr' : rowF (fs.take (j + 1)) = rowF (fs.take j) := by rw [hr]; simp [bytesF]
  have hc' : cntF (fs.take (j + 1)) = cntF (fs.take j) := by rw [hc]; simp
  refine ⟨by rw [hc']; exact h.1, fun i hi => ?_⟩
  by_cases e : i = j + 1
  · subst e; rw [hc', hr']; exact h.2 j (Nat.le_refl _)
  · exact h.2 i (by omega)
theorem ends_some {fs : List (List Ev)} {j : Nat} {f : List Ev} {E : List Nat} (h : EndsOK fs j E) (hx : fs[j]? = some f) (hf : 1 ≤ f.length) : EndsOK fs (j + 1) (E ++ [(rowF (fs.take (j + 1))).length]) := by
  have hc := cntF_step hx
  rw [if_neg (by omega)] at hc
  refine ⟨by rw [List.length_append, h.1, hc]; rfl, fun i hi => ?_⟩
  by_cases e : i = j + 1
  · subst e
    rw [hc, List.getElem?_append_right (by rw [h.1]; omega), h.1, Nat.sub_self]
    rfl
  · have := cntF_mono fs (show i ≤ j by omega)
    rw [List.getElem?_append_left (by rw [h.1]; omega)]
    exact h.2 i (by omega)
theorem row_split {fs : List (List Ev)} {j : Nat} {f : List Ev} (hx : fs[j]? = some f) (hf : 1 ≤ f.length) (t : List UInt8) : rowF fs ++ t = rowF (fs.take j) ++ (frameOf f ++ (rowF (fs.drop (j + 1)) ++ t)) := by
  obtain ⟨hj, ex⟩ := List.getElem?_eq_some_iff.1 hx
  conv => lhs; rw [← List.take_append_drop j fs, List.drop_eq_getElem_cons hj, ex, rowF_append]
  show (rowF (fs.take j) ++ (bytesF f ++ rowF (fs.drop (j + 1)))) ++ t = _
  rw [bytesF_some hf]
  simp only [List.append_assoc]
theorem row_cut {all : List UInt8} {a k : Nat} {f : List Ev} {post : List UInt8} (hd : all.drop a = frameOf f ++ post) (hf : Evs f) (hk : k ≤ all.length) (hak : a ≤ k) :
    (rdFrame (all.take k) a).2.2 = 0 ↔ a + (frameOf f).length ≤ k := by
  have hsp : all.drop a = (all.take k).drop a ++ all.drop k := by
    conv => lhs; rw [← List.take_append_drop k all]
    rw [List.drop_append_of_le_length (by rw [List.length_take]; omega)]
  constructor
  · intro h
    obtain ⟨hg, r, h1, _⟩ := rdFrame_sound h
    generalize (rdFrame (all.take k) a).1 = g at hg h1
    have h2 : all.drop a = frameOf g ++ (r ++ all.drop k) := by rw [hsp, h1, List.append_assoc]
    have e1 := rdFrame_frame hf hd
    have e2 := rdFrame_frame hg h2
    rw [e1] at e2
    have e3 : f = g := (Prod.mk.inj e2).1
    subst e3
    have hl := congrArg List.length h1
    rw [List.length_drop, List.length_take, List.length_append] at hl
    have := frameOf_length f
    omega
  · intro h
    have h3 : (all.take k).drop a = frameOf f ++ post.take (k - a - (frameOf f).length) := by
      rw [List.drop_take, hd, List.take_append, List.take_of_length_le (by omega)]
    rw [rdFrame_frame hf h3]

/- ## Numbers that the call puts together itself -/
def OwnI (w : World) (base : Nat) (v : Value) (E : List Nat) : Prop := w.ownsRow base 3 1 v E.length (E.map fun n : Nat => Value.int .i64 (n : Int))
theorem OwnI.type {w : World} {base : Nat} {v : Value} {E : List Nat} (h : OwnI w base v E) {b : Nat} (hb : v.ownBlock = some b) : ∃ cs, w.heap[b]? = some (.cells cs 3 (0, 0)) ∧ base ≤ b := by
  rcases h.2 with ⟨hv, _⟩ | ⟨g, cap, cur, hv, hbg, hg, hr⟩
  · rw [hv] at hb; cases hb
  · rw [hv] at hb
    have e : g = b := by injection hb
    subst e
    exact ⟨cur, hg, hbg⟩
theorem OwnI.away {F : Nat → Prop} {w w' : World} {base : Nat} {v : Value} {E : List Nat} (h : OwnI w base v E) (ha : Away F w w') (hf : ∀ b, v.ownBlock = some b → ¬ F b) : OwnI w' base v E := by
  refine ⟨h.1, ?_⟩
  rcases h.2 with hn | ⟨g, cap, cur, hv, hbg, hg, hr⟩
  · exact .inl hn
  · exact .inr ⟨g, cap, cur, hv, hbg, (ha.block g (Array.getElem?_eq_some_iff.1 hg).1 (hf g (by rw [hv]; rfl))).trans hg, hr⟩
theorem OwnI.below {w w' : World} {base : Nat} {v : Value} {E : List Nat} (h : OwnI w base v E) (hb : Below w.heap.size w w') : OwnI w' base v E :=
  h.away (Away.of_new hb (fun _ => False)) fun _ _ f => f
theorem OwnI.form {w : World} {base : Nat} {v : Value} {E : List Nat} (h : OwnI w base v E) : ∃ A c, v = .slice A E.length c ∧ E.length ≤ c := by
  rcases h.2 with ⟨hv, hn⟩ | ⟨g, cap, cur, hv, _, _, hnc, _⟩
  · exact ⟨none, 0, by rw [hv, hn], by omega⟩
  · exact ⟨_, cap, hv, hnc⟩
theorem OwnI.cell {w : World} {base : Nat} {A : Option Addr} {n c : Nat} {E : List Nat} (h : OwnI w base (.slice A n c) E) {i x : Nat} (hx : E[i]? = some x) : ∃ g, A = some ⟨g, 0, none⟩ ∧ w.cell? ⟨g, i, none⟩ = some (.int .i64 (x : Int)) := by
  have hi := (List.getElem?_eq_some_iff.1 hx).1
  have hrow := h
  rcases h.2 with ⟨hv, hn⟩ | ⟨g, cap, cur, hv, _⟩
  · omega
  · have hv' := hv
    simp only [Value.slice.injEq] at hv'
    refine ⟨g, hv'.1, ?_⟩
    rw [hv] at hrow
    have := World.ownsRow.cells (g := g) hrow rfl i (.int .i64 (x : Int)) (by rw [List.getElem?_map, hx]; rfl)
    simpa [Addr.add_lit] using this
theorem owni_one (w : World) (t : TypeId) (ht : t = 3) : OwnI (w.alloc (.cells #[.int .i64 0] t)) w.heap.size (.slice (some ⟨w.heap.size, 0, none⟩) 1 1) [0] := by
  subst ht
  exact ⟨rfl, .inr ⟨w.heap.size, 1, _, rfl, Nat.le_refl _, heap_alloc_new _ _, Nat.le_refl _, by unfold maxLen; omega, rfl, rfl⟩⟩
theorem infoInt : (Try.prog.info? 3).map (fun i => (i.zero, i.size, i.bytes)) = some (some (.int .i64 0), 1, 8) := by kernel_rfl
theorem oi_append {w : World} {base : Nat} {A : Option Addr} {n c : Nat} {E : List Nat} (h : OwnI w base (.slice A n c) E) (hb : base ≤ w.heap.size) (ty : TypeId) (x : Nat) {bb : Nat}
    (hc : w.heap[bb]? = some (.cells #[.int .i64 (x : Int)] 3 (0, 0))) (hl : E.length ≤ 100000) :
    ∃ v' w', (Builtin.append_ #[45, 45] ty #[.slice A n c, .slice (some ⟨bb, 0, none⟩) 1 1]).run Try.prog w = .ok v' w' ∧ ∃ A' c', v' = .slice A' (n + 1) c' ∧ OwnI w' base (.slice A' (n + 1) c') (E ++ [x]) ∧
      Away (fun b => (Value.slice A n c).ownBlock = some b) w w' := by
  obtain ⟨i0, h2, h3, h4, h5⟩ := info_parts infoInt
  have hc' : ∀ j u, [Value.int .i64 (x : Int)][j]? = some u → w.cell? ((⟨bb, 0, none⟩ : Addr).add j) = some u := by
    intro j u hj
    rw [Addr.add_lit, Nat.zero_add, cell_of_row w bb j _ _ _ hc]
    rw [← hj]
    simp
  have hn : n = E.length := by
    obtain ⟨A', c', hv, _⟩ := h.form
    simp only [Value.slice.injEq] at hv
    exact hv.2.1
  obtain ⟨v', w', hr, hown, hgr, _, hat⟩ := run_append_own_at (P := Try.prog) (w := w) base 45 ty 3 i0 (.int .i64 0) 1 8 Try.underlying45 h2 h3 h4 h5 rfl (by decide) (.slice A n c) E.length (E.map fun n : Nat => Value.int .i64 (n : Int)) h ⟨bb, 0, none⟩ 1 1 [.int .i64 (x : Int)] rfl
    hc' (fun u hu => by simp at hu; subst hu; rfl) (by unfold maxLen; omega) (by omega) hb
  have hown2 := hown
  rcases hown2.2 with ⟨_, hn'⟩ | ⟨g, cap, cur, rfl, _, _, _⟩
  · omega
  refine ⟨_, w', hr, _, cap, by rw [hn], ?_, Away.of_grown hgr⟩
  unfold OwnI
  rw [List.map_append, List.length_append, hn]
  exact hown

/-- a frame's events as they came in -/
structure FrC where
  B : Option Addr
  n : Nat
  c : Nat
  es : List Ev
structure FrC.ok (w : World) (x : FrC) : Prop where
  ev : IsEv w x.B x.n x.c x.es
  good : ∀ e ∈ x.es, e.ok
  most : x.c ≤ maxLen
end Go.Proofs.Ytinakeabbgphlaa
