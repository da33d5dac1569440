/-
  A disk in memory: its files' rows, its map, its own block; what is kept while other blocks turn.
-/
import Derived.Test.YtdcflgblaljdeaaDkState
import Derived.Test.YtdcflgblaljdeaaMem
import Derived.Test.YtdcflgblaljdeaaProg
import Derived.Maps.AppendAt
import Derived.Laws.OwnMore
set_option linter.unusedVariables false
namespace Go.Proofs.Ytdcflgblaljdeaa
open Go.RowKit
open Go.Lib (byteCells byteCells_length byteCells_append)

/-- w' is w but for the blocks of F, and new ones -/
structure Away (F : Nat → Prop) (w w' : World) : Prop where
  os : w'.os = w.os
  tape : w'.tape = w.tape
  output : w'.output = w.output
  size : w.heap.size ≤ w'.heap.size
  block : ∀ b, b < w.heap.size → ¬ F b → w'.heap[b]? = w.heap[b]?
theorem Away.refl (F : Nat → Prop) (w : World) : Away F w w := ⟨rfl, rfl, rfl, Nat.le_refl _, fun _ _ _ => rfl⟩
theorem Away.trans {F F' : Nat → Prop} {w w1 w2 : World} (h : Away F w w1) (h' : Away F' w1 w2) (hf : ∀ b, F' b → F b ∨ w.heap.size ≤ b) : Away F w w2 :=
  ⟨h'.os.trans h.os, h'.tape.trans h.tape, h'.output.trans h.output, Nat.le_trans h.size h'.size, fun b hb hn =>
    (h'.block b (Nat.lt_of_lt_of_le hb h.size) fun e => by rcases hf b e with e | e; exact hn e; omega).trans (h.block b hb hn)⟩
theorem Away.mono {F F' : Nat → Prop} {w w1 : World} (h : Away F w w1) (hf : ∀ b, b < w.heap.size → F b → F' b) : Away F' w w1 :=
  ⟨h.os, h.tape, h.output, h.size, fun b hb hn => h.block b hb fun e => hn (hf b hb e)⟩
theorem Away.of_below {B : Nat} {w w1 : World} (h : Below B w w1) : Away (fun b => B ≤ b) w w1 :=
  ⟨h.os, h.tape, h.output, h.size, fun b _ hn => h.block b (by omega)⟩
theorem Away.of_new {w w1 : World} (h : Below w.heap.size w w1) (F : Nat → Prop) : Away F w w1 :=
  (Away.of_below h).mono fun b hb e => by omega
theorem Away.below {B : Nat} {F : Nat → Prop} {w w1 : World} (h : Away F w w1) (hB : B ≤ w.heap.size) (hf : ∀ b, F b → B ≤ b) : Below B w w1 :=
  ⟨h.os, h.tape, h.output, h.size, fun b hb => h.block b (Nat.lt_of_lt_of_le hb hB) fun e => by have := hf b e; omega⟩
theorem Away.of_grown {w w1 : World} {row : Option Nat} (h : w.grownBy w1 row) : Away (fun b => row = some b) w w1 :=
  ⟨h.os, h.tape, h.output, h.size, fun b hb hn => h.block b hb fun e => hn e.symm⟩
theorem Away.setCell (w : World) (a : Addr) (v : Value) : Away (fun b => b = a.block) w (w.setCell a v) :=
  ⟨rfl, rfl, rfl, by simp [World.setCell], fun b hb hn => Below.heap_setCell w a v b hn⟩
theorem Away.drew {F : Nat → Prop} {w w1 : World} (h : Away F w w1) : Away F w w1.drew := ⟨h.os, h.tape, h.output, h.size, h.block⟩
theorem Away.of_turned {w w1 : World} {b : Nat} (h : w.mapTurned w1 b) : Away (fun x => x = b) w w1 :=
  (Away.of_grown h.grown).mono fun x _ e => by injection e with e; exact e.symm

/-- a file in memory: where its row lies -/
structure Raw where
  g : Option Nat
  cap : Nat
  c : Fc
def Raw.sl (r : Raw) : Value := .slice (r.g.map fun b => ⟨b, 0, none⟩) r.c.1.length r.cap
def Raw.val (r : Raw) : Value := .agg #[r.sl, .int .i64 (r.c.2 : Int)]
def Raw.zero : Raw := ⟨none, 0, ([], 0)⟩
def FRow (w : World) (r : Raw) : Prop := w.ownsRow 0 5 1 r.sl r.c.1.length (byteCells r.c.1)
theorem FRow.zero (w : World) : FRow w Raw.zero := World.ownsRow_nil w 0 _ 1
theorem Raw.own (r : Raw) : r.sl.ownBlock = r.g := by
  unfold Raw.sl
  cases r.g <;> rfl
theorem FRow.lt {w : World} {r : Raw} (h : FRow w r) {b : Nat} (hb : r.g = some b) : b < w.heap.size :=
  (World.ownsRow.lt h b (by rw [Raw.own, hb])).2
theorem FRow.keep {w w' : World} {r : Raw} (h : FRow w r) (hk : ∀ b, r.g = some b → w'.heap[b]? = w.heap[b]?) : FRow w' r := by
  refine ⟨h.1, ?_⟩
  rcases h.2 with hn | ⟨g, cap, cur, hv, hbg, hg, hr⟩
  · exact .inl hn
  · refine .inr ⟨g, cap, cur, hv, hbg, (hk g ?_).trans hg, hr⟩
    have := Raw.own r
    rw [hv] at this
    exact this.symm
theorem FRow.away {F : Nat → Prop} {w w' : World} {r : Raw} (h : FRow w r) (ha : Away F w w') (hf : ∀ b, r.g = some b → ¬ F b) : FRow w' r :=
  h.keep fun b hb => ha.block b (h.lt hb) (hf b hb)
theorem FRow.isB {w : World} {r : Raw} (h : FRow w r) : IsB w (r.g.map fun b => ⟨b, 0, none⟩) r.c.1.length r.cap r.c.1 := by
  have h' : Own w 0 5 r.sl r.c.1 := h
  obtain ⟨A, c, hv, hi, _⟩ := own_is h'
  unfold Raw.sl at hv
  simp only [Value.slice.injEq] at hv
  obtain ⟨rfl, _, rfl⟩ := hv
  exact hi
/-- a row that the call made is a raw one -/
theorem row_of_own {w : World} {base n : Nat} {v : Value} {l : List UInt8} (h : w.ownsRow base 5 1 v n (byteCells l)) (s : Nat) (hn : n = l.length) : ∃ r : Raw, v = r.sl ∧ r.c = (l, s) ∧ FRow w r := by
  subst hn
  rcases h.2 with ⟨rfl, hn⟩ | ⟨g, cap, cur, rfl, hbg, hg, hr⟩
  · have : l = [] := List.eq_nil_of_length_eq_zero hn
    subst this
    exact ⟨⟨none, 0, ([], s)⟩, rfl, rfl, World.ownsRow_nil w 0 _ 1⟩
  · exact ⟨⟨some g, cap, (l, s)⟩, rfl, rfl, h.1, .inr ⟨g, cap, cur, rfl, Nat.zero_le _, hg, hr⟩⟩

theorem infoU8 : (Try.prog.info? 5).map (fun i => (i.zero, i.size, i.bytes)) = some (some (.int .u8 0), 1, 1) := by kernel_rfl
/-- an append to a row -/
theorem row_append {w : World} {r : Raw} (h : FRow w r) (ty : TypeId) {B : Option Addr} {m c : Nat} {news : List UInt8} (hB : IsB w B m c news) (hsz : r.c.1.length + m ≤ 70368744177664) :
    ∃ (r' : Raw) (w' : World), (Builtin.append_ #[26, 26] ty #[r.sl, .slice B m c]).run Try.prog w = .ok r'.sl w' ∧ r'.c = (r.c.1 ++ news, r.c.2) ∧ FRow w' r' ∧ w.grownBy w' r.g ∧ (r'.g = r.g ∨ r'.g = some w.heap.size) := by
  obtain ⟨i0, h2, h3, h4, h5⟩ := info_parts infoU8
  obtain ⟨rfl, hcap, hnone, hsrc⟩ := hB
  cases B with
  | some ad =>
    obtain ⟨v', w', hr, hown', hgr, _, hat⟩ := run_append_own_at (P := Try.prog) w 0 26 ty 5 i0 (.int .u8 0) 1 1 Try.underlying26 h2 h3 h4 h5 rfl (by decide) r.sl r.c.1.length (byteCells r.c.1) h ad news.length c (byteCells news)
      (by rw [byteCells_length, Nat.mul_one]) (hsrc.cells ad rfl) (byteCells_one _) (by unfold maxLen; omega) (by omega) (Nat.zero_le _)
    rw [← byteCells_append] at hown'
    obtain ⟨r', rfl, hc, hrow⟩ := row_of_own hown' r.c.2 (List.length_append).symm
    rw [Raw.own] at hgr
    rw [Raw.own, Raw.own] at hat
    exact ⟨r', w', hr, hc, hrow, hgr, hat⟩
  | none =>
    obtain rfl : c = 0 := hnone rfl
    obtain rfl : news = [] := List.eq_nil_of_length_eq_zero (by omega)
    exact ⟨r, w, run_append_owned_none w 0 26 ty 5 i0 1 Try.underlying26 h2 r.sl r.c.1.length (byteCells r.c.1) h, by simp, h, ⟨rfl, rfl, rfl, Nat.le_refl _, fun _ _ _ => rfl⟩, .inl rfl⟩

/-- the files in memory -/
structure DkR (w : World) (mb : Nat) (ms : List (Nm × Raw)) : Prop where
  own : w.ownsMap Try.prog 9 asIs mb ms.length (dmap (amap Raw.val ms))
  rise : Rising ms
  rows : ∀ p ∈ ms, FRow w p.2
  apart : ms.Pairwise fun p q => ∀ b, p.2.g = some b → q.2.g ≠ some b
/-- the files' blocks -/
def FootR (mb : Nat) (ms : List (Nm × Raw)) (b : Nat) : Prop := b = mb ∨ ∃ p ∈ ms, p.2.g = some b
theorem DkR.lt {w : World} {mb : Nat} {ms : List (Nm × Raw)} (h : DkR w mb ms) {b : Nat} (hb : FootR mb ms b) : b < w.heap.size := by
  rcases hb with rfl | ⟨p, hp, hg⟩
  · exact h.own.lt
  · exact (h.rows p hp).lt hg
theorem DkR.away {F : Nat → Prop} {w w' : World} {mb : Nat} {ms : List (Nm × Raw)} (h : DkR w mb ms) (ha : Away F w w') (hf : ∀ b, FootR mb ms b → ¬ F b) : DkR w' mb ms := by
  refine ⟨?_, h.rise, fun p hp => (h.rows p hp).away ha fun b hb => hf b (.inr ⟨p, hp, hb⟩), h.apart⟩
  obtain ⟨es, clock, hb, F', hs, hD⟩ := h.own
  exact ⟨es, clock, (ha.block mb h.own.lt (hf mb (.inl rfl))).trans hb, F', hs, hD⟩
/-- what two names' rows are -/
theorem DkR.two {w : World} {mb : Nat} {ms : List (Nm × Raw)} (h : DkR w mb ms) {p q : Nm × Raw} (hp : p ∈ ms) (hq : q ∈ ms) (hne : p.1 ≠ q.1) {b : Nat} (hb : p.2.g = some b) : q.2.g ≠ some b := by
  intro hqb
  rcases List.mem_iff_getElem.1 hp with ⟨i, hi, ei⟩
  rcases List.mem_iff_getElem.1 hq with ⟨j, hj, ej⟩
  rcases Nat.lt_trichotomy i j with hij | hij | hij
  · exact List.pairwise_iff_getElem.1 h.apart i j hi hj hij b (by rw [ei]; exact hb) (by rw [ej]; exact hqb)
  · subst hij
    rw [ei] at ej
    exact hne (by rw [ej])
  · exact List.pairwise_iff_getElem.1 h.apart j i hj hi hij b (by rw [ej]; exact hqb) (by rw [ei]; exact hb)

/-- the disk's own block -/
def cellsD (most used : Nat) (mb : Nat) (armed : Bool) (lv : Int) (down : Bool) : Array Value :=
  #[.int .i64 (most : Int), .int .i64 (used : Int), .map (some mb), .bool armed, .int .i64 lv, .bool down]
def usedR (ms : List (Nm × Raw)) : Nat := asum (fun r : Raw => r.c.1.length) ms
/-- a disk in memory, with all of its parts -/
structure DkP (w : World) (a mb : Nat) (ms : List (Nm × Raw)) (most : Nat) (armed : Bool) (lv : Int) (down : Bool) : Prop where
  blk : w.heap[a]? = some (.cells (cellsD most (usedR ms) mb armed lv down) 63 (0, 0))
  files : DkR w mb ms
theorem DkP.away {F : Nat → Prop} {w w' : World} {a mb : Nat} {ms : List (Nm × Raw)} {most : Nat} {armed : Bool} {lv : Int} {down : Bool} (h : DkP w a mb ms most armed lv down) (ha : Away F w w')
    (h1 : ¬ F a) (hf : ∀ b, FootR mb ms b → ¬ F b) : DkP w' a mb ms most armed lv down :=
  ⟨(ha.block a (Array.getElem?_eq_some_iff.1 h.blk).1 h1).trans h.blk, h.files.away ha hf⟩
theorem DkP.ne_map {w : World} {a mb : Nat} {ms : List (Nm × Raw)} {most : Nat} {armed : Bool} {lv : Int} {down : Bool} (h : DkP w a mb ms most armed lv down) : mb ≠ a := by
  rintro rfl
  obtain ⟨es, clock, hb, _⟩ := h.files.own
  have := h.blk
  rw [hb] at this
  cases this
theorem DkP.ne_row {w : World} {a mb : Nat} {ms : List (Nm × Raw)} {most : Nat} {armed : Bool} {lv : Int} {down : Bool} (h : DkP w a mb ms most armed lv down) {r : Raw} (hr : FRow w r) {b : Nat} (hb : r.g = some b) : b ≠ a ∧ b ≠ mb := by
  rcases hr.2 with ⟨hv, _⟩ | ⟨g, cap, cur, hv, hbg, hg, _⟩
  · have := Raw.own r
    rw [hv, hb] at this
    cases this
  · have := Raw.own r
    rw [hv, hb] at this
    have e : g = b := by injection this
    subst e
    refine ⟨?_, ?_⟩
    · rintro rfl
      have := h.blk
      rw [hg] at this
      simp at this
    · rintro rfl
      obtain ⟨es, clock, hm, _⟩ := h.files.own
      rw [hg] at hm
      cases hm
theorem DkP.lt {w : World} {a mb : Nat} {ms : List (Nm × Raw)} {most : Nat} {armed : Bool} {lv : Int} {down : Bool} (h : DkP w a mb ms most armed lv down) : a < w.heap.size := (Array.getElem?_eq_some_iff.1 h.blk).1
/-- a disk in memory, but for the row of the one file whose bytes are about to be put -/
structure DkQ (w : World) (a mb : Nat) (nm : Nm) (ms : List (Nm × Raw)) (most : Nat) (armed : Bool) (lv : Int) (down : Bool) : Prop where
  blk : w.heap[a]? = some (.cells (cellsD most (usedR ms) mb armed lv down) 63 (0, 0))
  own : w.ownsMap Try.prog 9 asIs mb ms.length (dmap (amap Raw.val ms))
  rise : Rising ms
  rows : ∀ p ∈ ms, p.1 ≠ nm → FRow w p.2
  apart : ∀ p ∈ ms, ∀ q ∈ ms, p.1 ≠ nm → q.1 ≠ nm → p.1 ≠ q.1 → ∀ b, p.2.g = some b → q.2.g ≠ some b
theorem DkP.q {w : World} {a mb : Nat} {ms : List (Nm × Raw)} {most : Nat} {armed : Bool} {lv : Int} {down : Bool} (h : DkP w a mb ms most armed lv down) (nm : Nm) : DkQ w a mb nm ms most armed lv down :=
  ⟨h.blk, h.files.own, h.files.rise, fun p hp _ => h.files.rows p hp, fun p hp q hq _ _ hne _ hb => h.files.two hp hq hne hb⟩
def FootQ (mb : Nat) (nm : Nm) (ms : List (Nm × Raw)) (b : Nat) : Prop := b = mb ∨ ∃ p ∈ ms, p.1 ≠ nm ∧ p.2.g = some b
theorem DkQ.lt {w : World} {a mb : Nat} {nm : Nm} {ms : List (Nm × Raw)} {most : Nat} {armed : Bool} {lv : Int} {down : Bool} (h : DkQ w a mb nm ms most armed lv down) : a < w.heap.size := (Array.getElem?_eq_some_iff.1 h.blk).1
theorem DkQ.ltF {w : World} {a mb : Nat} {nm : Nm} {ms : List (Nm × Raw)} {most : Nat} {armed : Bool} {lv : Int} {down : Bool} (h : DkQ w a mb nm ms most armed lv down) {b : Nat} (hb : FootQ mb nm ms b) : b < w.heap.size := by
  rcases hb with rfl | ⟨p, hp, hn, hg⟩
  · exact h.own.lt
  · exact (h.rows p hp hn).lt hg
theorem own_away {F : Nat → Prop} {w w' : World} {mb : Nat} {l : List (Nm × Value)} (h : w.ownsMap Try.prog 9 asIs mb l.length (dmap l)) (ha : Away F w w') (hf : ¬ F mb) : w'.ownsMap Try.prog 9 asIs mb l.length (dmap l) := by
  have hlt := h.lt
  obtain ⟨es, clock, hb, F', hs, hD⟩ := h
  exact ⟨es, clock, (ha.block mb hlt hf).trans hb, F', hs, hD⟩
theorem DkQ.away {F : Nat → Prop} {w w' : World} {a mb : Nat} {nm : Nm} {ms : List (Nm × Raw)} {most : Nat} {armed : Bool} {lv : Int} {down : Bool} (h : DkQ w a mb nm ms most armed lv down) (ha : Away F w w')
    (h1 : ¬ F a) (hf : ∀ b, FootQ mb nm ms b → ¬ F b) : DkQ w' a mb nm ms most armed lv down := by
  refine ⟨(ha.block a h.lt h1).trans h.blk, ?_, h.rise, fun p hp hn => (h.rows p hp hn).away ha fun b hb => hf b (.inr ⟨p, hp, hn, hb⟩), h.apart⟩
  have := own_away (l := amap Raw.val ms) (by simpa [amap] using h.own) ha (hf mb (.inl rfl))
  simpa [amap] using this
theorem own_ne_row {w : World} {P : Program} {k : TypeId} {R : Value → Option (DataW Value × List MemPlace)} {mb n : Nat} {D : DataW Value} (h : w.ownsMap P k R mb n D) {r : Raw} (hr : FRow w r) {b : Nat} (hb : r.g = some b) : b ≠ mb := by
  rcases hr.2 with ⟨hv, _⟩ | ⟨g, cap, cur, hv, hbg, hg, _⟩
  · have := Raw.own r
    rw [hv, hb] at this
    cases this
  · have := Raw.own r
    rw [hv, hb] at this
    have e : g = b := by injection this
    subst e
    rintro rfl
    obtain ⟨es, clock, hm, _⟩ := h
    rw [hg] at hm
    cases hm
theorem row_type {w : World} {r : Raw} (hr : FRow w r) {b : Nat} (hb : r.g = some b) : ∃ cs, w.heap[b]? = some (.cells cs 5 (0, 0)) := by
  rcases hr.2 with ⟨hv, _⟩ | ⟨g, cap, cur, hv, hbg, hg, _⟩
  · have := Raw.own r
    rw [hv, hb] at this
    cases this
  · have := Raw.own r
    rw [hv, hb] at this
    have e : g = b := by injection this
    subst e
    exact ⟨cur, hg⟩
theorem DkQ.ne_map {w : World} {a mb : Nat} {nm : Nm} {ms : List (Nm × Raw)} {most : Nat} {armed : Bool} {lv : Int} {down : Bool} (h : DkQ w a mb nm ms most armed lv down) : mb ≠ a := by
  rintro rfl
  obtain ⟨es, clock, hb, _⟩ := h.own
  have := h.blk
  rw [hb] at this
  cases this
theorem DkQ.ne_row {w : World} {a mb : Nat} {nm : Nm} {ms : List (Nm × Raw)} {most : Nat} {armed : Bool} {lv : Int} {down : Bool} (h : DkQ w a mb nm ms most armed lv down) {r : Raw} (hr : FRow w r) {b : Nat} (hb : r.g = some b) : b ≠ a ∧ b ≠ mb := by
  refine ⟨?_, own_ne_row h.own hr hb⟩
  rintro rfl
  obtain ⟨cs, hc⟩ := row_type hr hb
  have := h.blk
  rw [hc] at this
  simp at this
/-- a block of another type is none of the disk's -/
theorem DkP.other {w : World} {a mb : Nat} {ms : List (Nm × Raw)} {most : Nat} {armed : Bool} {lv : Int} {down : Bool} (h : DkP w a mb ms most armed lv down) {x : Nat} {cs : Array Value} {t : TypeId} {fr : Nat × Nat} (hx : w.heap[x]? = some (.cells cs t fr))
    (h1 : t ≠ 63) (h2 : t ≠ 5) : ¬ (x = a ∨ FootR mb ms x) := by
  rintro (rfl | rfl | ⟨p, hp, hg⟩)
  · have := h.blk
    rw [hx] at this
    simp at this
    exact h1 this.2.1
  · obtain ⟨es, clock, hm, _⟩ := h.files.own
    rw [hx] at hm
    cases hm
  · obtain ⟨cs', hc⟩ := row_type (h.files.rows p hp) hg
    rw [hx] at hc
    simp at hc
    exact h2 hc.2.1
theorem DkQ.other {w : World} {a mb : Nat} {nm : Nm} {ms : List (Nm × Raw)} {most : Nat} {armed : Bool} {lv : Int} {down : Bool} (h : DkQ w a mb nm ms most armed lv down) {x : Nat} {cs : Array Value} {t : TypeId} {fr : Nat × Nat} (hx : w.heap[x]? = some (.cells cs t fr))
    (h1 : t ≠ 63) (h2 : t ≠ 5) : x ≠ a ∧ ¬ FootQ mb nm ms x := by
  refine ⟨?_, ?_⟩
  · rintro rfl
    have := h.blk
    rw [hx] at this
    simp at this
    exact h1 this.2.1
  · rintro (rfl | ⟨p, hp, hn, hg⟩)
    · obtain ⟨es, clock, hm, _⟩ := h.own
      rw [hx] at hm
      cases hm
    · obtain ⟨cs', hc⟩ := row_type (h.rows p hp hn) hg
      rw [hx] at hc
      simp at hc
      exact h2 hc.2.1
/-- its blocks -/
def Foot (a mb : Nat) (ms : List (Nm × Raw)) (b : Nat) : Prop := b = a ∨ FootR mb ms b

/-- a disk in memory, within the blocks F, as the document has it -/
def Dk (w : World) (F : Nat → Prop) (a : Nat) (s : St) : Prop :=
  s.wf ∧ (∀ b, F b → b < w.heap.size) ∧ ∃ mb ms lv, DkP w a mb ms s.most s.left.isSome lv s.down ∧ (∀ n, s.left = some n → lv = (n : Int)) ∧ s.fs = amap Raw.c ms ∧ ∀ b, Foot a mb ms b → F b
theorem Dk.away {F F' : Nat → Prop} {w w' : World} {a : Nat} {s : St} (h : Dk w F a s) (ha : Away F' w w') (hf : ∀ b, F b → ¬ F' b) : Dk w' F a s := by
  obtain ⟨hw, hl, mb, ms, lv, hp, hlv, hfs, hfoot⟩ := h
  exact ⟨hw, fun b hb => Nat.lt_of_lt_of_le (hl b hb) ha.size, mb, ms, lv, hp.away ha (hf _ (hfoot _ (.inl rfl))) fun b hb => hf b (hfoot b (.inr hb)), hlv, hfs, hfoot⟩
theorem Dk.below {F : Nat → Prop} {w w' : World} {a : Nat} {s : St} (h : Dk w F a s) (hb : Below w.heap.size w w') : Dk w' F a s :=
  h.away (Away.of_below hb) fun b hF => by have := h.2.1 b hF; omega
theorem Dk.drew {F : Nat → Prop} {w : World} {a : Nat} {s : St} (h : Dk w F a s) : Dk w.drew F a s := h.below ((Below.refl _ w).drew)
/-- behind a call on it: within its own blocks and new ones -/
def Turned (w : World) (F : Nat → Prop) (a : Nat) (w' : World) (s : St) : Prop :=
  ∃ F', Dk w' F' a s ∧ Away F w w' ∧ ∀ b, F' b → F b ∨ w.heap.size ≤ b
theorem Turned.mk' {w w' : World} {F : Nat → Prop} {a : Nat} {s : St} (hw : s.wf) (ha : Away F w w') {mb : Nat} {ms : List (Nm × Raw)} {lv : Int} (hp : DkP w' a mb ms s.most s.left.isSome lv s.down) (hlv : ∀ n, s.left = some n → lv = (n : Int))
    (hfs : s.fs = amap Raw.c ms) (hfoot : ∀ b, Foot a mb ms b → F b ∨ w.heap.size ≤ b) : Turned w F a w' s :=
  ⟨fun b => (F b ∨ w.heap.size ≤ b) ∧ b < w'.heap.size, ⟨hw, fun b hb => hb.2, mb, ms, lv, hp, hlv, hfs, fun b hb => ⟨hfoot b hb, by rcases hb with rfl | hb; exact hp.lt; exact hp.files.lt hb⟩⟩, ha, fun b hb => hb.1⟩
end Go.Proofs.Ytdcflgblaljdeaa
