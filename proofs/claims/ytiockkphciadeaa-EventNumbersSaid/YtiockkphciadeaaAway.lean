/-
  What is kept while other blocks turn; a row of bytes that a call may append to in place.
-/
import Derived.Test.YtiockkphciadeaaMem
import Derived.Test.YtiockkphciadeaaProg
import Derived.Maps.AppendAt
import Derived.Laws.OwnMore
set_option linter.unusedVariables false
namespace Go.Proofs.Ytiockkphciadeaa
open Go.RowKit
open Go.Lib (byteCells byteCells_length byteCells_append)

/-- w' is w but for the blocks of F, and new ones -/
structure Away (F : Nat → Prop) (w w' : World) : Prop where
  os : w'.os = w.os
  tape : w'.tape = w.tape
  output : w'.output = w.output
  size : w.heap.size ≤ w'.heap.size
  block : ∀ b, b < w.heap.size → ¬ F b → w'.heap[b]? = w.heap[b]?
theorem Away.refl (F : Nat → Prop) (w : World) : Away F w w := ⟨rfl, rfl, rfl, Nat.le_refl _, fun _ _ _ => rfl⟩
theorem Away.trans {F F' : Nat → Prop} {w w1 w2 : World} (h : Away F w w1) (h' : Away F' w1 w2) (hf : ∀ b, F' b → F b ∨ w.heap.size ≤ b) : Away F w w2 :=
  ⟨h'.os.trans h.os, h'.tape.trans h.tape, h'.output.trans h.output, Nat.le_trans h.size h'.size, fun b hb hn =>
    (h'.block b (Nat.lt_of_lt_of_le hb h.size) fun e => by rcases hf b e with e | e; exact hn e; omega).trans (h.block b hb hn)⟩
theorem Away.mono {F F' : Nat → Prop} {w w1 : World} (h : Away F w w1) (hf : ∀ b, b < w.heap.size → F b → F' b) : Away F' w w1 :=
  ⟨h.os, h.tape, h.output, h.size, fun b hb hn => h.block b hb fun e => hn (hf b hb e)⟩
theorem Away.of_below {B : Nat} {w w1 : World} (h : Below B w w1) : Away (fun b => B ≤ b) w w1 :=
  ⟨h.os, h.tape, h.output, h.size, fun b _ hn => h.block b (by omega)⟩
theorem Away.of_new {w w1 : World} (h : Below w.heap.size w w1) (F : Nat → Prop) : Away F w w1 :=
  (Away.of_below h).mono fun b hb e => by omega
theorem Away.below {B : Nat} {F : Nat → Prop} {w w1 : World} (h : Away F w w1) (hB : B ≤ w.heap.size) (hf : ∀ b, F b → B ≤ b) : Below B w w1 :=
  ⟨h.os, h.tape, h.output, h.size, fun b hb => h.block b (Nat.lt_of_lt_of_le hb hB) fun e => by have := hf b e; omega⟩
theorem Away.of_grown {w w1 : World} {row : Option Nat} (h : w.grownBy w1 row) : Away (fun b => row = some b) w w1 :=
  ⟨h.os, h.tape, h.output, h.size, fun b hb hn => h.block b hb fun e => hn e.symm⟩
theorem Away.setCell (w : World) (a : Addr) (v : Value) : Away (fun b => b = a.block) w (w.setCell a v) :=
  ⟨rfl, rfl, rfl, by simp [World.setCell], fun b hb hn => Below.heap_setCell w a v b hn⟩
theorem Away.drew {F : Nat → Prop} {w w1 : World} (h : Away F w w1) : Away F w w1.drew := ⟨h.os, h.tape, h.output, h.size, h.block⟩
/-- a file in memory: where its row lies -/
structure Raw where
  g : Option Nat
  cap : Nat
  c : List UInt8 × Nat
def Raw.sl (r : Raw) : Value := .slice (r.g.map fun b => ⟨b, 0, none⟩) r.c.1.length r.cap
def Raw.val (r : Raw) : Value := .agg #[r.sl, .int .i64 (r.c.2 : Int)]
def Raw.zero : Raw := ⟨none, 0, ([], 0)⟩
def FRow (w : World) (r : Raw) : Prop := w.ownsRow 0 5 1 r.sl r.c.1.length (byteCells r.c.1)
theorem FRow.zero (w : World) : FRow w Raw.zero := World.ownsRow_nil w 0 _ 1
theorem Raw.own (r : Raw) : r.sl.ownBlock = r.g := by
  unfold Raw.sl
  cases r.g <;> rfl
theorem FRow.lt {w : World} {r : Raw} (h : FRow w r) {b : Nat} (hb : r.g = some b) : b < w.heap.size :=
  (World.ownsRow.lt h b (by rw [Raw.own, hb])).2
theorem FRow.keep {w w' : World} {r : Raw} (h : FRow w r) (hk : ∀ b, r.g = some b → w'.heap[b]? = w.heap[b]?) : FRow w' r := by
  refine ⟨h.1, ?_⟩
  rcases h.2 with hn | ⟨g, cap, cur, hv, hbg, hg, hr⟩
  · exact .inl hn
  · refine .inr ⟨g, cap, cur, hv, hbg, (hk g ?_).trans hg, hr⟩
    have := Raw.own r
    rw [hv] at this
    exact this.symm
theorem FRow.away {F : Nat → Prop} {w w' : World} {r : Raw} (h : FRow w r) (ha : Away F w w') (hf : ∀ b, r.g = some b → ¬ F b) : FRow w' r :=
  h.keep fun b hb => ha.block b (h.lt hb) (hf b hb)
theorem FRow.isB {w : World} {r : Raw} (h : FRow w r) : IsB w (r.g.map fun b => ⟨b, 0, none⟩) r.c.1.length r.cap r.c.1 := by
  have h' : Own w 0 5 r.sl r.c.1 := h
  obtain ⟨A, c, hv, hi, _⟩ := own_is h'
  unfold Raw.sl at hv
  simp only [Value.slice.injEq] at hv
  obtain ⟨rfl, _, rfl⟩ := hv
  exact hi
/-- a row that the call made is a raw one -/
theorem row_of_own {w : World} {base n : Nat} {v : Value} {l : List UInt8} (h : w.ownsRow base 5 1 v n (byteCells l)) (s : Nat) (hn : n = l.length) : ∃ r : Raw, v = r.sl ∧ r.c = (l, s) ∧ FRow w r := by
  subst hn
  rcases h.2 with ⟨rfl, hn⟩ | ⟨g, cap, cur, rfl, hbg, hg, hr⟩
  · have : l = [] := List.eq_nil_of_length_eq_zero hn
    subst this
    exact ⟨⟨none, 0, ([], s)⟩, rfl, rfl, World.ownsRow_nil w 0 _ 1⟩
  · exact ⟨⟨some g, cap, (l, s)⟩, rfl, rfl, h.1, .inr ⟨g, cap, cur, rfl, Nat.zero_le _, hg, hr⟩⟩

theorem infoU8 : (Try.prog.info? 5).map (fun i => (i.zero, i.size, i.bytes)) = some (some (.int .u8 0), 1, 1) := by kernel_rfl
/-- an append to a row -/
theorem row_append {w : World} {r : Raw} (h : FRow w r) (ty : TypeId) {B : Option Addr} {m c : Nat} {news : List UInt8} (hB : IsB w B m c news) (hsz : r.c.1.length + m ≤ 70368744177664) :
    ∃ (r' : Raw) (w' : World), (Builtin.append_ #[26, 26] ty #[r.sl, .slice B m c]).run Try.prog w = .ok r'.sl w' ∧ r'.c = (r.c.1 ++ news, r.c.2) ∧ FRow w' r' ∧ w.grownBy w' r.g ∧ (r'.g = r.g ∨ r'.g = some w.heap.size) := by
  obtain ⟨i0, h2, h3, h4, h5⟩ := info_parts infoU8
  obtain ⟨rfl, hcap, hnone, hsrc⟩ := hB
  cases B with
  | some ad =>
    obtain ⟨v', w', hr, hown', hgr, _, hat⟩ := run_append_own_at (P := Try.prog) w 0 26 ty 5 i0 (.int .u8 0) 1 1 Try.underlying26 h2 h3 h4 h5 rfl (by decide) r.sl r.c.1.length (byteCells r.c.1) h ad news.length c (byteCells news)
      (by rw [byteCells_length, Nat.mul_one]) (hsrc.cells ad rfl) (byteCells_one _) (by unfold maxLen; omega) (by omega) (Nat.zero_le _)
    rw [← byteCells_append] at hown'
    obtain ⟨r', rfl, hc, hrow⟩ := row_of_own hown' r.c.2 (List.length_append).symm
    rw [Raw.own] at hgr
    rw [Raw.own, Raw.own] at hat
    exact ⟨r', w', hr, hc, hrow, hgr, hat⟩
  | none =>
    obtain rfl : c = 0 := hnone rfl
    obtain rfl : news = [] := List.eq_nil_of_length_eq_zero (by omega)
    exact ⟨r, w, run_append_owned_none w 0 26 ty 5 i0 1 Try.underlying26 h2 r.sl r.c.1.length (byteCells r.c.1) h, by simp, h, ⟨rfl, rfl, rfl, Nat.le_refl _, fun _ _ _ => rfl⟩, .inl rfl⟩

theorem row_type {w : World} {r : Raw} (hr : FRow w r) {b : Nat} (hb : r.g = some b) : ∃ cs, w.heap[b]? = some (.cells cs 5 (0, 0)) := by
  rcases hr.2 with ⟨hv, _⟩ | ⟨g, cap, cur, hv, hbg, hg, _⟩
  · have := Raw.own r
    rw [hv, hb] at this
    cases this
  · have := Raw.own r
    rw [hv, hb] at this
    have e : g = b := by injection this
    subst e
    exact ⟨cur, hg⟩
/-- an append to a row, as the walk has it -/
theorem rowB {w : World} {r : Raw} (h : FRow w r) {B : Option Addr} {m c : Nat} {news : List UInt8} (hB : IsB w B m c news) (hsz : r.c.1.length + m ≤ 70368744177664) (A : Option Addr) (n cp : Nat) (hA : r.sl = .slice A n cp) (ty : TypeId) :
    ∃ v' w', (Builtin.append_ #[26, 26] ty #[.slice A n cp, .slice B m c]).run Try.prog w = .ok v' w' ∧ ∃ (g : Option Nat) (cap : Nat), v' = .slice (g.map fun b => ⟨b, 0, none⟩) (n + m) cap ∧ FRow w' ⟨g, cap, (r.c.1 ++ news, r.c.2)⟩ ∧ (g = r.g ∨ g = some w.heap.size) ∧ w.grownBy w' r.g := by
  obtain ⟨⟨g, cap, c'⟩, w', hr, hc, hrow, hg, hat⟩ := row_append h ty hB hsz
  rw [hA] at hr
  simp only at hc hat
  subst hc
  have hn : n = r.c.1.length := by
    unfold Raw.sl at hA
    simp at hA
    exact hA.2.1.symm
  refine ⟨_, w', hr, g, cap, by unfold Raw.sl; rw [List.length_append, hB.len, hn], hrow, hat, hg⟩

theorem set_blk {w : World} {g : Nat} {t : TypeId} {cs : Array Value} (h : w.heap[g]? = some (.cells cs t (0, 0))) (i : Nat) (u : Value) : (w.setCell ⟨g, i, none⟩ u).heap[g]? = some (.cells (cs.setIfInBounds i u) t (0, 0)) := by
  simp [World.setCell, Array.getElem?_modify, h]
theorem free_of_row {w : World} {b : Nat} {cs : Array Value} {t : TypeId} (h : w.heap[b]? = some (.cells cs t (0, 0))) (i : Nat) : w.frozen? ⟨b, i, none⟩ = false := by
  simp [World.frozen?, h]
end Go.Proofs.Ytiockkphciadeaa
