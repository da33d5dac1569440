/-
  What is kept while other blocks turn; a row of bytes that a call may append to in place.
-/
import Derived.Test.YtebpdlggkncliaaK1
import Derived.Test.YtebpdlggkncliaaProg
import Derived.Maps.AppendAt
import Derived.Laws.OwnMore
import Derived.Deep.RegionHeld3
import Derived.Lib.UnsafeStr
import Derived.Lib.Hide
import Derived.Deep.Slices
import Derived.ChangeArms
import Derived.OpenShut
set_option linter.unusedVariables false
namespace Go.Proofs.Ytebpdlggkncliaa
open Go.RowKit
open Go.Lib (byteCells byteCells_length byteCells_append)

/-- w' is w but for the blocks of F, and new ones -/
structure Away (F : Nat → Prop) (w w' : World) : Prop where
  os : w'.os = w.os
  tape : w'.tape = w.tape
  output : w'.output = w.output
  size : w.heap.size ≤ w'.heap.size
  block : ∀ b, b < w.heap.size → ¬ F b → w'.heap[b]? = w.heap[b]?
theorem Away.refl (F : Nat → Prop) (w : World) : Away F w w := ⟨rfl, rfl, rfl, Nat.le_refl _, fun _ _ _ => rfl⟩
theorem Away.trans {F F' : Nat → Prop} {w w1 w2 : World} (h : Away F w w1) (h' : Away F' w1 w2) (hf : ∀ b, F' b → F b ∨ w.heap.size ≤ b) : Away F w w2 :=
  ⟨h'.os.trans h.os, h'.tape.trans h.tape, h'.output.trans h.output, Nat.le_trans h.size h'.size, fun b hb hn =>
    (h'.block b (Nat.lt_of_lt_of_le hb h.size) fun e => by rcases hf b e with e | e; exact hn e; omega).trans (h.block b hb hn)⟩
theorem Away.mono {F F' : Nat → Prop} {w w1 : World} (h : Away F w w1) (hf : ∀ b, b < w.heap.size → F b → F' b) : Away F' w w1 :=
  ⟨h.os, h.tape, h.output, h.size, fun b hb hn => h.block b hb fun e => hn (hf b hb e)⟩
theorem Away.of_below {B : Nat} {w w1 : World} (h : Below B w w1) : Away (fun b => B ≤ b) w w1 :=
  ⟨h.os, h.tape, h.output, h.size, fun b _ hn => h.block b (by omega)⟩
theorem Away.of_new {w w1 : World} (h : Below w.heap.size w w1) (F : Nat → Prop) : Away F w w1 :=
  (Away.of_below h).mono fun b hb e => by omega
theorem Away.below {B : Nat} {F : Nat → Prop} {w w1 : World} (h : Away F w w1) (hB : B ≤ w.heap.size) (hf : ∀ b, F b → B ≤ b) : Below B w w1 :=
  ⟨h.os, h.tape, h.output, h.size, fun b hb => h.block b (Nat.lt_of_lt_of_le hb hB) fun e => by have := hf b e; omega⟩
theorem Away.of_grown {w w1 : World} {row : Option Nat} (h : w.grownBy w1 row) : Away (fun b => row = some b) w w1 :=
  ⟨h.os, h.tape, h.output, h.size, fun b hb hn => h.block b hb fun e => hn e.symm⟩
theorem Away.setCell (w : World) (a : Addr) (v : Value) : Away (fun b => b = a.block) w (w.setCell a v) :=
  ⟨rfl, rfl, rfl, by simp [World.setCell], fun b hb hn => Below.heap_setCell w a v b hn⟩
theorem Away.drew {F : Nat → Prop} {w w1 : World} (h : Away F w w1) : Away F w w1.drew := ⟨h.os, h.tape, h.output, h.size, h.block⟩
/-- a file in memory: where its row lies -/
structure Raw where
  g : Option Nat
  cap : Nat
  c : List UInt8 × Nat
def Raw.sl (r : Raw) : Value := .slice (r.g.map fun b => ⟨b, 0, none⟩) r.c.1.length r.cap
def Raw.val (r : Raw) : Value := .agg #[r.sl, .int .i64 (r.c.2 : Int)]
def Raw.zero : Raw := ⟨none, 0, ([], 0)⟩
def FRow (w : World) (r : Raw) : Prop := w.ownsRow 0 5 1 r.sl r.c.1.length (byteCells r.c.1)
theorem FRow.zero (w : World) : FRow w Raw.zero := World.ownsRow_nil w 0 _ 1
theorem Raw.own (r : Raw) : r.sl.ownBlock = r.g := by
  unfold Raw.sl
  cases r.g <;> rfl
theorem FRow.lt {w : World} {r : Raw} (h : FRow w r) {b : Nat} (hb : r.g = some b) : b < w.heap.size :=
  (World.ownsRow.lt h b (by rw [Raw.own, hb])).2
theorem FRow.keep {w w' : World} {r : Raw} (h : FRow w r) (hk : ∀ b, r.g = some b → w'.heap[b]? = w.heap[b]?) : FRow w' r := by
  refine ⟨h.1, ?_⟩
  rcases h.2 with hn | ⟨g, cap, cur, hv, hbg, hg, hr⟩
  · exact .inl hn
  · refine .inr ⟨g, cap, cur, hv, hbg, (hk g ?_).trans hg, hr⟩
    have := Raw.own r
    rw [hv] at this
    exact this.symm
theorem FRow.away {F : Nat → Prop} {w w' : World} {r : Raw} (h : FRow w r) (ha : Away F w w') (hf : ∀ b, r.g = some b → ¬ F b) : FRow w' r :=
  h.keep fun b hb => ha.block b (h.lt hb) (hf b hb)
theorem FRow.isB {w : World} {r : Raw} (h : FRow w r) : IsB w (r.g.map fun b => ⟨b, 0, none⟩) r.c.1.length r.cap r.c.1 := by
  have h' : Own w 0 5 r.sl r.c.1 := h
  obtain ⟨A, c, hv, hi, _⟩ := own_is h'
  unfold Raw.sl at hv
  simp only [Value.slice.injEq] at hv
  obtain ⟨rfl, _, rfl⟩ := hv
  exact hi
/-- a row that the call made is a raw one -/
theorem row_of_own {w : World} {base n : Nat} {v : Value} {l : List UInt8} (h : w.ownsRow base 5 1 v n (byteCells l)) (s : Nat) (hn : n = l.length) : ∃ r : Raw, v = r.sl ∧ r.c = (l, s) ∧ FRow w r := by
  subst hn
  rcases h.2 with ⟨rfl, hn⟩ | ⟨g, cap, cur, rfl, hbg, hg, hr⟩
  · have : l = [] := List.eq_nil_of_length_eq_zero hn
    subst this
    exact ⟨⟨none, 0, ([], s)⟩, rfl, rfl, World.ownsRow_nil w 0 _ 1⟩
  · exact ⟨⟨some g, cap, (l, s)⟩, rfl, rfl, h.1, .inr ⟨g, cap, cur, rfl, Nat.zero_le _, hg, hr⟩⟩

theorem infoU8 : (Try.prog.info? 5).map (fun i => (i.zero, i.size, i.bytes)) = some (some (.int .u8 0), 1, 1) := by kernel_rfl
/-- an append to a row -/
theorem row_append {w : World} {r : Raw} (h : FRow w r) (ty : TypeId) {B : Option Addr} {m c : Nat} {news : List UInt8} (hB : IsB w B m c news) (hsz : r.c.1.length + m ≤ 70368744177664) :
    ∃ (r' : Raw) (w' : World), (Builtin.append_ #[26, 26] ty #[r.sl, .slice B m c]).run Try.prog w = .ok r'.sl w' ∧ r'.c = (r.c.1 ++ news, r.c.2) ∧ FRow w' r' ∧ w.grownBy w' r.g ∧ (r'.g = r.g ∨ r'.g = some w.heap.size) := by
  obtain ⟨i0, h2, h3, h4, h5⟩ := info_parts infoU8
  obtain ⟨rfl, hcap, hnone, hsrc⟩ := hB
  cases B with
  | some ad =>
    obtain ⟨v', w', hr, hown', hgr, _, hat⟩ := run_append_own_at (P := Try.prog) w 0 26 ty 5 i0 (.int .u8 0) 1 1 Try.underlying26 h2 h3 h4 h5 rfl (by decide) r.sl r.c.1.length (byteCells r.c.1) h ad news.length c (byteCells news)
      (by rw [byteCells_length, Nat.mul_one]) (hsrc.cells ad rfl) (byteCells_one _) (by unfold maxLen; omega) (by omega) (Nat.zero_le _)
    rw [← byteCells_append] at hown'
    obtain ⟨r', rfl, hc, hrow⟩ := row_of_own hown' r.c.2 (List.length_append).symm
    rw [Raw.own] at hgr
    rw [Raw.own, Raw.own] at hat
    exact ⟨r', w', hr, hc, hrow, hgr, hat⟩
  | none =>
    obtain rfl : c = 0 := hnone rfl
    obtain rfl : news = [] := List.eq_nil_of_length_eq_zero (by omega)
    exact ⟨r, w, run_append_owned_none w 0 26 ty 5 i0 1 Try.underlying26 h2 r.sl r.c.1.length (byteCells r.c.1) h, by simp, h, ⟨rfl, rfl, rfl, Nat.le_refl _, fun _ _ _ => rfl⟩, .inl rfl⟩

theorem row_type {w : World} {r : Raw} (hr : FRow w r) {b : Nat} (hb : r.g = some b) : ∃ cs, w.heap[b]? = some (.cells cs 5 (0, 0)) := by
  rcases hr.2 with ⟨hv, _⟩ | ⟨g, cap, cur, hv, hbg, hg, _⟩
  · have := Raw.own r
    rw [hv, hb] at this
    cases this
  · have := Raw.own r
    rw [hv, hb] at this
    have e : g = b := by injection this
    subst e
    exact ⟨cur, hg⟩
/-- an append to a row, as the walk has it -/
theorem rowB {w : World} {r : Raw} (h : FRow w r) {B : Option Addr} {m c : Nat} {news : List UInt8} (hB : IsB w B m c news) (hsz : r.c.1.length + m ≤ 70368744177664) (A : Option Addr) (n cp : Nat) (hA : r.sl = .slice A n cp) (ty : TypeId) :
    ∃ v' w', (Builtin.append_ #[26, 26] ty #[.slice A n cp, .slice B m c]).run Try.prog w = .ok v' w' ∧ ∃ (g : Option Nat) (cap : Nat), v' = .slice (g.map fun b => ⟨b, 0, none⟩) (n + m) cap ∧ FRow w' ⟨g, cap, (r.c.1 ++ news, r.c.2)⟩ ∧ (g = r.g ∨ g = some w.heap.size) ∧ w.grownBy w' r.g := by
  obtain ⟨⟨g, cap, c'⟩, w', hr, hc, hrow, hg, hat⟩ := row_append h ty hB hsz
  rw [hA] at hr
  simp only at hc hat
  subst hc
  have hn : n = r.c.1.length := by
    unfold Raw.sl at hA
    simp at hA
    exact hA.2.1.symm
  refine ⟨_, w', hr, g, cap, by unfold Raw.sl; rw [List.length_append, hB.len, hn], hrow, hat, hg⟩

theorem set_blk {w : World} {g : Nat} {t : TypeId} {cs : Array Value} (h : w.heap[g]? = some (.cells cs t (0, 0))) (i : Nat) (u : Value) : (w.setCell ⟨g, i, none⟩ u).heap[g]? = some (.cells (cs.setIfInBounds i u) t (0, 0)) := by
  simp [World.setCell, Array.getElem?_modify, h]
theorem free_of_row {w : World} {b : Nat} {cs : Array Value} {t : TypeId} (h : w.heap[b]? = some (.cells cs t (0, 0))) (i : Nat) : w.frozen? ⟨b, i, none⟩ = false := by
  simp [World.frozen?, h]
end Go.Proofs.Ytebpdlggkncliaa

/-
  Events in memory.
-/
set_option linter.unusedVariables false
namespace Go.Proofs.Ytebpdlggkncliaa
open Go.RowKit
open Go.Lib (byteCells byteCells_length byteCells_append uvarint)

def Ev.cells (e : Ev) : List Value := [.int .i64 e.th, .int .u8 (e.op : Int), .int .i64 e.obj, .int .i64 e.a, .int .i64 e.b]
/-- an event by value -/
abbrev Ev.val (e : Ev) : Value := .agg #[.int .i64 e.th, .int .u8 (e.op : Int), .int .i64 e.obj, .int .i64 e.a, .int .i64 e.b]
/-- a slice of events holds these -/
structure IsEv (w : World) (A : Option Addr) (n c : Nat) (es : List Ev) : Prop where
  len : es.length = n
  cap : n ≤ c
  none_ : A = none → c = 0
  src : es = [] ∨ ∃ b o, A = some ⟨b, o, none⟩ ∧ ∀ j x, es[j]? = some x → ∀ f u, x.cells[f]? = some u → w.cell? ⟨b, o + j * 5 + f, none⟩ = some u
theorem IsEv.nil (w : World) : IsEv w none 0 0 [] := ⟨rfl, Nat.le_refl _, fun _ => rfl, .inl rfl⟩
theorem IsEv.below {w w' : World} {A : Option Addr} {n c : Nat} {es : List Ev} (h : IsEv w A n c es) (hb : Below w.heap.size w w') : IsEv w' A n c es := by
  refine ⟨h.len, h.cap, h.none_, ?_⟩
  rcases h.src with h0 | ⟨b, o, hA, hc⟩
  · exact .inl h0
  · exact .inr ⟨b, o, hA, fun j x hj f u hu => cell_below hb _ _ (hc j x hj f u hu)⟩
theorem IsEv.away {F : Nat → Prop} {w w' : World} {A : Option Addr} {n c : Nat} {es : List Ev} (h : IsEv w A n c es) (ha : Away F w w') (hf : ∀ ad, A = some ad → ¬ F ad.block) : IsEv w' A n c es := by
  refine ⟨h.len, h.cap, h.none_, ?_⟩
  rcases h.src with h0 | ⟨b, o, hA, hc⟩
  · exact .inl h0
  · refine .inr ⟨b, o, hA, fun j x hj f u hu => ?_⟩
    have hx := hc j x hj f u hu
    exact (World.cell?_of_block (ha.block b (block_lt_of_cell hx) (hf _ hA))).trans hx
/-- the one event's cells -/
theorem IsEv.at_ {w : World} {A : Option Addr} {n c : Nat} {es : List Ev} (h : IsEv w A n c es) {j : Nat} (hj : j < n) :
    ∃ b o x, A = some ⟨b, o, none⟩ ∧ es[j]? = some x ∧ w.cell? ⟨b, o + j * 5, none⟩ = some (.int .i64 x.th) ∧ w.cell? ⟨b, o + j * 5 + 1, none⟩ = some (.int .u8 (x.op : Int)) ∧
      w.cell? ⟨b, o + j * 5 + 2, none⟩ = some (.int .i64 x.obj) ∧ w.cell? ⟨b, o + j * 5 + 3, none⟩ = some (.int .i64 x.a) ∧ w.cell? ⟨b, o + j * 5 + 4, none⟩ = some (.int .i64 x.b) := by
  have hl := h.len
  have hx : es[j]? = some (es[j]'(by omega)) := List.getElem?_eq_getElem (by omega)
  rcases h.src with h0 | ⟨b, o, hA, hc⟩
  · rw [h0] at hl; simp at hl; omega
  · exact ⟨b, o, _, hA, hx, hc j _ hx 0 _ rfl, hc j _ hx 1 _ rfl, hc j _ hx 2 _ rfl, hc j _ hx 3 _ rfl, hc j _ hx 4 _ rfl⟩
end Go.Proofs.Ytebpdlggkncliaa

/-
  Put: an event's bytes, put behind others.
-/
set_option linter.unusedVariables false
set_option linter.unusedSimpArgs false
namespace Go.Proofs.Ytebpdlggkncliaa
open Go.RowKit
open Go.Lib (byteCells byteCells_length byteCells_append uvarint)

set_option maxRecDepth 100000 in
set_option maxHeartbeats 1000000 in
theorem cl_put {w : World} {ob : Nat} {r : Raw} (h : w.heap[ob]? = some (.cells #[r.sl] 26 (0, 0))) (hr : FRow w r) (hl : r.c.1.length ≤ 1000000) (was n : Int) :
    Calls Try.prog 134 #[.int .i64 was, .int .i64 n, .pointer (some ⟨ob, 0, none⟩)] w fun e w' => e = .returned (.int .i64 n) ∧ ∃ r' : Raw, w'.heap[ob]? = some (.cells #[r'.sl] 26 (0, 0)) ∧ FRow w' r' ∧
      r'.c = (r.c.1 ++ svar (dif was n), r.c.2) ∧ (r'.g = r.g ∨ ∃ b, r'.g = some b ∧ w.heap.size ≤ b) ∧ Away (fun b => b = ob ∨ r.g = some b) w w' := by
  have hd : IntKind.i64.wrap (n - was) = dif was n := IntWalk.i64_left _
  have hdi := dif_in was n
  have hne : ∀ b, r.g = some b → b ≠ ob := fun b hb => by
    obtain ⟨cs, hc⟩ := row_type hr hb
    rintro rfl
    rw [h] at hc
    simp at hc
  have hlt := (Array.getElem?_eq_some_iff.1 h).1
  have H := Lib.hid h
  have x0 : w.cell? ⟨ob, 0, none⟩ = some r.sl := cell_of_row w _ 0 _ _ _ h
  obtain ⟨A, m, c, hA⟩ : ∃ A m c, r.sl = .slice A m c := ⟨_, _, _, rfl⟩
  rw [hA] at x0
  have HA := Lib.hid hA
  clear h hA
  generalize dif was n = d at hd hdi ⊢
  go_enter Try.func134, Try.ntmps134
  go_wp2_with fail
  refine wp_region_held_drew (S := fun _ => True) (by kernel_rfl) trivial (fun hHeld => ?_)
  refine wpAnyH_take (i := 1) (v := ?_) rfl (by kernel_rfl) (by kernel_rfl) (by kernel_rfl) (fun _ _ _ h => h) (Or.inl ⟨by rfl, ?_⟩) hHeld ?_
  rotate_left
  · (intro w hSw; (try dsimp only at hSw); go_simp <;> rfl)
  simp only [Act.put, List.getElem_toArray, List.getElem_cons_zero, List.getElem_cons_succ, List.setIfInBounds_toArray, List.set_cons_zero, List.set_cons_succ]
  refine wpAnyH_take (i := 2) (v := ?_) rfl (by kernel_rfl) (by kernel_rfl) (by kernel_rfl) (fun _ _ _ h => h) (Or.inl ⟨by rfl, ?_⟩) hHeld ?_
  rotate_left
  · (intro w hSw; (try dsimp only at hSw); go_simp <;> rfl)
  simp only [Act.put, List.getElem_toArray, List.getElem_cons_zero, List.getElem_cons_succ, List.setIfInBounds_toArray, List.set_cons_zero, List.set_cons_succ]
  refine wpAnyH_take (i := 3) (v := ?_) rfl (by kernel_rfl) (by kernel_rfl) (by kernel_rfl) (fun _ _ _ h => h) (Or.inl ⟨by rfl, ?_⟩) hHeld ?_
  rotate_left
  · (intro w hSw; (try dsimp only at hSw); go_simp <;> rfl)
  simp only [Act.put, List.getElem_toArray, List.getElem_cons_zero, List.getElem_cons_succ, List.setIfInBounds_toArray, List.set_cons_zero, List.set_cons_succ]
  refine wpAnyH_ready (rs := [0, 4]) (by kernel_rfl) (by simp) ?_
  refine AllReadyH.cons rfl (fun K hK => ?_) (AllReadyH.cons rfl (fun K hK => ?_) AllReadyH.nil)
  · have x1 : w.drew.cell? ⟨ob, 0, none⟩ = some (.slice A m c) := x0
    go_simp
    refine hK.out _ _ trivial (fun hHeld => ?_)
    clear hK K
    try simp only [Act.put, List.getElem_toArray, List.getElem_cons_zero, List.getElem_cons_succ, List.setIfInBounds_toArray, List.set_cons_zero, List.set_cons_succ]
    refine wpAnyH_ready (rs := [4]) (by kernel_rfl) (by simp) ?_
    refine AllReadyH.cons rfl (fun K hK => ?_) AllReadyH.nil
    go_simp
    refine (int_any none 0 0 d [] _ (IsB.nil _) (by omega) hdi.1 hdi.2).mono ?_
    rintro e w2 ⟨v, rfl, ho, hb2⟩
    rw [List.nil_append] at ho
    obtain ⟨B, mb, cb, rfl, hI⟩ := own_slice ho
    have hb2' := bstep0 ((Below.refl _ w).drew) hb2
    have hr2 := hr.away (Away.of_new hb2' (fun _ => False)) (fun _ _ f => f)
    have h2 := (hb2'.block _ hlt).trans H.out
    have x1 := cell_below hb2' _ _ x0
    clear hb2 ho
    dsimp only
    refine hK.out _ _ trivial (fun hHeld => ?_)
    clear hK K
    try simp only [Act.put, List.getElem_toArray, List.getElem_cons_zero, List.getElem_cons_succ, List.setIfInBounds_toArray, List.set_cons_zero, List.set_cons_succ]
    have hmb := hI.len
    have hsv : (svar d).length ≤ 10 := svar_most hdi
    unfold svar at hsv
    have hsz := hb2'.size
    obtain ⟨v', w3, hap, g, cap, rfl, hrow, hg, hgr⟩ := rowB hr2 hI (by omega) A m c HA.out 26
    refine wpAnyH_ready (rs := [5]) (by kernel_rfl) (by simp) ?_
    refine AllReadyH.cons rfl (fun K hK => ?_) AllReadyH.nil
    refine step_run (by simp [Region.wanted]) _ _ 26 rfl (R := fun v' w' => v' = .slice (g.map fun b => ⟨b, 0, none⟩) (m + mb) cap ∧ w' = w3) ⟨_, _, hap, rfl, rfl⟩ ?_
    rintro v' w' ⟨rfl, rfl⟩
    refine hK.out _ _ trivial (fun hHeld => ?_)
    clear hK K
    try simp only [Act.put, List.getElem_toArray, List.getElem_cons_zero, List.getElem_cons_succ, List.setIfInBounds_toArray, List.set_cons_zero, List.set_cons_succ]
    have hag := Away.of_grown hgr
    have hlt2 := (Array.getElem?_eq_some_iff.1 h2).1
    have q3 := (hag.block _ hlt2 (fun e => hne _ e rfl)).trans h2
    have y0 : w'.cell? ⟨ob, 0, none⟩ = some r.sl := cell_of_row w' _ 0 _ _ _ q3
    have yf := free_of_row q3 0
    have Q3 := Lib.hid q3
    have H2 := Lib.hid h2
    clear q3 h2 x0 x1 hap
    refine wpAnyH_ready (rs := [6]) (by kernel_rfl) (by simp) ?_
    refine AllReadyH.cons rfl (fun K hK => ?_) AllReadyH.nil
    go_simp
    refine hK.out _ _ trivial (fun hHeld => ?_)
    clear hK K
    try simp only [Act.put, List.getElem_toArray, List.getElem_cons_zero, List.getElem_cons_succ, List.setIfInBounds_toArray, List.set_cons_zero, List.set_cons_succ]
    refine wpAnyH_done (by kernel_rfl) ?_ _
    go_wp2_with fail
    go_ret
    have hS := Away.setCell w' ⟨ob, 0, none⟩ (.slice (g.map fun b => ⟨b, 0, none⟩) (m + mb) cap)
    have hgn : ∀ b, g = some b → b ≠ ob := fun b hb e => by
      subst e
      rcases hg with e | e
      · rw [e] at hb; exact hne _ hb rfl
      · rw [e] at hb; injection hb with hb; omega
    have hm : m = r.c.1.length := by
      have := HA.out
      unfold Raw.sl at this
      simp at this
      exact this.2.1.symm
    have hsl : Raw.sl ⟨g, cap, (r.c.1 ++ uvarint (Lib.zigzag d), r.c.2)⟩ = .slice (g.map fun b => ⟨b, 0, none⟩) (m + mb) cap := by
      unfold Raw.sl
      rw [List.length_append, hmb, hm]
    refine ⟨rfl, ⟨g, cap, (r.c.1 ++ uvarint (Lib.zigzag d), r.c.2)⟩, ?_, hrow.away hS hgn, rfl, ?_, ?_⟩
    · rw [set_blk Q3.out 0, hsl]
      rfl
    · rcases hg with e | e
      · exact .inl e
      · exact .inr ⟨_, e, hsz⟩
    · refine ((Away.of_new hb2' _).trans hag fun b e => .inl (.inr e)).trans hS fun b e => .inl (.inl e)
  · skip
    go_simp
    refine (int_any none 0 0 d [] _ (IsB.nil _) (by omega) hdi.1 hdi.2).mono ?_
    rintro e w2 ⟨v, rfl, ho, hb2⟩
    rw [List.nil_append] at ho
    obtain ⟨B, mb, cb, rfl, hI⟩ := own_slice ho
    have hb2' := bstep0 ((Below.refl _ w).drew) hb2
    have hr2 := hr.away (Away.of_new hb2' (fun _ => False)) (fun _ _ f => f)
    have h2 := (hb2'.block _ hlt).trans H.out
    have x1 := cell_below hb2' _ _ x0
    clear hb2 ho
    dsimp only
    refine hK.out _ _ trivial (fun hHeld => ?_)
    clear hK K
    try simp only [Act.put, List.getElem_toArray, List.getElem_cons_zero, List.getElem_cons_succ, List.setIfInBounds_toArray, List.set_cons_zero, List.set_cons_succ]
    refine wpAnyH_ready (rs := [0]) (by kernel_rfl) (by simp) ?_
    refine AllReadyH.cons rfl (fun K hK => ?_) AllReadyH.nil
    go_simp
    refine hK.out _ _ trivial (fun hHeld => ?_)
    clear hK K
    try simp only [Act.put, List.getElem_toArray, List.getElem_cons_zero, List.getElem_cons_succ, List.setIfInBounds_toArray, List.set_cons_zero, List.set_cons_succ]
    have hmb := hI.len
    have hsv : (svar d).length ≤ 10 := svar_most hdi
    unfold svar at hsv
    have hsz := hb2'.size
    obtain ⟨v', w3, hap, g, cap, rfl, hrow, hg, hgr⟩ := rowB hr2 hI (by omega) A m c HA.out 26
    refine wpAnyH_ready (rs := [5]) (by kernel_rfl) (by simp) ?_
    refine AllReadyH.cons rfl (fun K hK => ?_) AllReadyH.nil
    refine step_run (by simp [Region.wanted]) _ _ 26 rfl (R := fun v' w' => v' = .slice (g.map fun b => ⟨b, 0, none⟩) (m + mb) cap ∧ w' = w3) ⟨_, _, hap, rfl, rfl⟩ ?_
    rintro v' w' ⟨rfl, rfl⟩
    refine hK.out _ _ trivial (fun hHeld => ?_)
    clear hK K
    try simp only [Act.put, List.getElem_toArray, List.getElem_cons_zero, List.getElem_cons_succ, List.setIfInBounds_toArray, List.set_cons_zero, List.set_cons_succ]
    have hag := Away.of_grown hgr
    have hlt2 := (Array.getElem?_eq_some_iff.1 h2).1
    have q3 := (hag.block _ hlt2 (fun e => hne _ e rfl)).trans h2
    have y0 : w'.cell? ⟨ob, 0, none⟩ = some r.sl := cell_of_row w' _ 0 _ _ _ q3
    have yf := free_of_row q3 0
    have Q3 := Lib.hid q3
    have H2 := Lib.hid h2
    clear q3 h2 x0 x1 hap
    refine wpAnyH_ready (rs := [6]) (by kernel_rfl) (by simp) ?_
    refine AllReadyH.cons rfl (fun K hK => ?_) AllReadyH.nil
    go_simp
    refine hK.out _ _ trivial (fun hHeld => ?_)
    clear hK K
    try simp only [Act.put, List.getElem_toArray, List.getElem_cons_zero, List.getElem_cons_succ, List.setIfInBounds_toArray, List.set_cons_zero, List.set_cons_succ]
    refine wpAnyH_done (by kernel_rfl) ?_ _
    go_wp2_with fail
    go_ret
    have hS := Away.setCell w' ⟨ob, 0, none⟩ (.slice (g.map fun b => ⟨b, 0, none⟩) (m + mb) cap)
    have hgn : ∀ b, g = some b → b ≠ ob := fun b hb e => by
      subst e
      rcases hg with e | e
      · rw [e] at hb; exact hne _ hb rfl
      · rw [e] at hb; injection hb with hb; omega
    have hm : m = r.c.1.length := by
      have := HA.out
      unfold Raw.sl at this
      simp at this
      exact this.2.1.symm
    have hsl : Raw.sl ⟨g, cap, (r.c.1 ++ uvarint (Lib.zigzag d), r.c.2)⟩ = .slice (g.map fun b => ⟨b, 0, none⟩) (m + mb) cap := by
      unfold Raw.sl
      rw [List.length_append, hmb, hm]
    refine ⟨rfl, ⟨g, cap, (r.c.1 ++ uvarint (Lib.zigzag d), r.c.2)⟩, ?_, hrow.away hS hgn, rfl, ?_, ?_⟩
    · rw [set_blk Q3.out 0, hsl]
      rfl
    · rcases hg with e | e
      · exact .inl e
      · exact .inr ⟨_, e, hsz⟩
    · refine ((Away.of_new hb2' _).trans hag fun b e => .inl (.inr e)).trans hS fun b e => .inl (.inl e)

end Go.Proofs.Ytebpdlggkncliaa

/-
  The sum as the definition puts it together, of what each single bit weighs, is the register's.
-/
namespace Go.Proofs.Ytebpdlggkncliaa

def bitAt (l : List UInt8) (i : Nat) : Nat := ((l[i / 8]?).getD 0).toNat / 2 ^ (i % 8) % 2
def proc (l : List UInt8) : Nat → Nat → Nat → Nat
  | 0, _, r => r
  | m + 1, i, r => proc l m (i + 1) (halve (r ^^^ bitAt l i))
theorem proc_xor (l : List UInt8) : ∀ (m i r s : Nat), proc l m i (r ^^^ s) = proc l m i r ^^^ halveN m s
  | 0, _, _, _ => rfl
  | m + 1, i, r, s => by
    show proc l m (i + 1) (halve ((r ^^^ s) ^^^ bitAt l i)) = _
    rw [show (r ^^^ s) ^^^ bitAt l i = (r ^^^ bitAt l i) ^^^ s by rw [Nat.xor_assoc, Nat.xor_comm s, ← Nat.xor_assoc], halve_xor, proc_xor l m]
    rfl
theorem bitAt_lt (l : List UInt8) (i : Nat) : bitAt l i < 2 := Nat.mod_lt _ (by decide)
theorem proc_lt (l : List UInt8) : ∀ (m i r : Nat), r < 4294967296 → proc l m i r < 4294967296
  | 0, _, _, h => h
  | m + 1, i, r, h => proc_lt l m _ _ (halve_lt (Nat.xor_lt_two_pow (n := 32) h (by have := bitAt_lt l i; omega)))
theorem halve_two (a c : Nat) (hc : c < 2) : halve (2 * a + c) = a ^^^ (if c = 1 then halve 1 else 0) := by
  rcases (show c = 0 ∨ c = 1 by omega) with rfl | rfl
  · unfold halve
    rw [if_neg (by omega), show (2 * a + 0) / 2 = a by omega]
    simp
  · unfold halve
    rw [if_pos (by omega), show (2 * a + 1) / 2 = a by omega]
    simp
theorem xor_low (a t : Nat) (ht : t < 2) : (2 * a + 1) ^^^ t = 2 * a + (1 - t) := by
  have h1 := half_xor (2 * a + 1) t
  have h2 := odd_xor (2 * a + 1) t
  rw [show t / 2 = 0 by omega, Nat.xor_zero] at h1
  omega
/-- what is still in the register that was all ones, i bits on -/
def left_ (i : Nat) : Nat := 2 ^ (32 - i) - 1
theorem left_lt (i : Nat) : left_ i < 4294967296 := by
  unfold left_
  have : 2 ^ (32 - i) ≤ 2 ^ 32 := Nat.pow_le_pow_right (by decide) (by omega)
  omega
def turned (t i : Nat) : Nat := if decide (t = 1) != decide (i < 32) then 1 else 0
theorem left_step (i t : Nat) (ht : t < 2) : left_ i ^^^ t = 2 * left_ (i + 1) + turned t i := by
  unfold left_ turned
  by_cases hi : i < 32
  · have e : 2 ^ (32 - i) = 2 * 2 ^ (32 - (i + 1)) := by rw [show 32 - i = (32 - (i + 1)) + 1 by omega, Nat.pow_succ, Nat.mul_comm]
    have hp : 0 < 2 ^ (32 - (i + 1)) := Nat.pow_pos (by decide)
    rw [e, show 2 * 2 ^ (32 - (i + 1)) - 1 = 2 * (2 ^ (32 - (i + 1)) - 1) + 1 by omega, xor_low _ _ ht]
    rcases (show t = 0 ∨ t = 1 by omega) with rfl | rfl <;> simp [hi]
  · rw [show 32 - i = 0 by omega, show 32 - (i + 1) = 0 by omega]
    rcases (show t = 0 ∨ t = 1 by omega) with rfl | rfl <;> simp [hi]
/-- the sum, as far as the bits from i on are in it -/
def tell (l : List UInt8) (n i : Nat) : Nat := proc l (n - i) i (left_ i)
theorem tell_lt (l : List UInt8) (n i : Nat) : tell l n i < 4294967296 := proc_lt l _ _ _ (left_lt i)
theorem tell_end (l : List UInt8) (n : Nat) : tell l n n = left_ n := by
  unfold tell
  rw [Nat.sub_self]
  rfl
theorem tell_step (l : List UInt8) (n i : Nat) (hi : i < n) : tell l n i = tell l n (i + 1) ^^^ (if turned (bitAt l i) i = 1 then halveN (n - i) 1 else 0) := by
  unfold tell
  rw [show n - i = (n - (i + 1)) + 1 by omega]
  show proc l (n - (i + 1)) (i + 1) (halve (left_ i ^^^ bitAt l i)) = _
  have ht : turned (bitAt l i) i < 2 := by unfold turned; split <;> omega
  rw [left_step _ _ (bitAt_lt l i), halve_two _ _ ht, proc_xor]
  congr 1
  split
  · rfl
  · exact halveN_zero _
theorem halve_in (r y : Nat) : halve (r ^^^ y) = halve (r ^^^ y % 2) ^^^ y / 2 := by
  have e : y = y % 2 ^^^ (2 * (y / 2)) := by
    have h1 := half_xor (y % 2) (2 * (y / 2))
    have h2 := odd_xor (y % 2) (2 * (y / 2))
    rw [show y % 2 / 2 = 0 by omega, Nat.zero_xor] at h1
    omega
  have h0 := halve_two (y / 2) 0 (by decide)
  simp at h0
  conv => lhs; rw [e, ← Nat.xor_assoc, halve_xor, h0]
theorem proc_byte (l : List UInt8) (j : Nat) (x : UInt8) (hx : l[j]? = some x) : ∀ (d m r : Nat), d ≤ 8 →
    proc l (d + m) (8 * j + (8 - d)) r = proc l m (8 * j + 8) (halveN d (r ^^^ x.toNat / 2 ^ (8 - d)))
  | 0, m, r, _ => by
    have := x.toNat_lt
    rw [show x.toNat / 2 ^ (8 - 0) = 0 by simp; omega, Nat.xor_zero, Nat.zero_add]
    rfl
  | d + 1, m, r, hd => by
    rw [show d + 1 + m = (d + m) + 1 by omega]
    show proc l (d + m) (8 * j + (8 - (d + 1)) + 1) (halve (r ^^^ bitAt l (8 * j + (8 - (d + 1))))) = _
    have hb : bitAt l (8 * j + (8 - (d + 1))) = x.toNat / 2 ^ (8 - (d + 1)) % 2 := by
      unfold bitAt
      rw [show (8 * j + (8 - (d + 1))) / 8 = j by omega, show (8 * j + (8 - (d + 1))) % 8 = 8 - (d + 1) by omega, hx]
      rfl
    have hy : x.toNat / 2 ^ (8 - d) = x.toNat / 2 ^ (8 - (d + 1)) / 2 := by
      rw [Nat.div_div_eq_div_mul, ← Nat.pow_succ, show (8 - (d + 1)).succ = 8 - d by omega]
    rw [show 8 * j + (8 - (d + 1)) + 1 = 8 * j + (8 - d) by omega, proc_byte l j x hx d m _ (by omega), hb, hy, ← halve_in]
    rfl
theorem proc_bytes (l : List UInt8) : ∀ (t : List UInt8) (j r : Nat), l.drop j = t → proc l (8 * t.length) (8 * j) r = crcReg r t
  | [], _, _, _ => rfl
  | x :: t, j, r, h => by
    have hx : l[j]? = some x := by
      have := congrArg (·[0]?) h
      simpa using this
    have ht : l.drop (j + 1) = t := by rw [← List.drop_drop, h]; rfl
    have hp := proc_byte l j x hx 8 (8 * t.length) r (Nat.le_refl _)
    rw [Nat.sub_self, Nat.pow_zero, Nat.div_one, Nat.add_zero] at hp
    rw [List.length_cons, show 8 * (t.length + 1) = 8 + 8 * t.length by omega, hp, show 8 * j + 8 = 8 * (j + 1) by omega, proc_bytes l t (j + 1) _ ht]
    rfl
theorem tell_zero (l : List UInt8) : tell l (8 * l.length) 0 = crcReg 4294967295 l := by
  have := proc_bytes l l 0 4294967295 rfl
  rw [Nat.mul_zero] at this
  exact this
/-- what of the register is left, counted down -/
def still (n d : Nat) : Nat := 2 ^ (32 - n) - 2 ^ d
theorem still_step (k d : Nat) (hd : d < 32) (h : 8 * k + d < 32) : still (8 * k) d = still (8 * k) (d + 1) ^^^ 2 ^ d := by
  have hk : k < 4 := by omega
  have hall : ∀ k < 4, ∀ d < 32, 8 * k + d < 32 → still (8 * k) d = still (8 * k) (d + 1) ^^^ 2 ^ d := by decide +kernel
  exact hall k hk d hd h
theorem still_none (n d : Nat) (h : ¬ n + d < 32) : still n d = still n (d + 1) := by
  unfold still
  have h1 : 2 ^ (32 - n) ≤ 2 ^ d := Nat.pow_le_pow_right (by decide) (by omega)
  have h2 : 2 ^ (32 - n) ≤ 2 ^ (d + 1) := Nat.pow_le_pow_right (by decide) (by omega)
  omega
theorem still_begin (n : Nat) : still n 32 = 0 := by
  unfold still
  have h1 : 2 ^ (32 - n) ≤ 2 ^ 32 := Nat.pow_le_pow_right (by decide) (by omega)
  omega
theorem still_end (n : Nat) : still n 0 = left_ n := rfl
theorem still_lt (n d : Nat) : still n d < 4294967296 := by
  unfold still
  have h1 : 2 ^ (32 - n) ≤ 2 ^ 32 := Nat.pow_le_pow_right (by decide) (by omega)
  have h2 : 0 < 2 ^ d := Nat.pow_pos (by decide)
  omega
end Go.Proofs.Ytebpdlggkncliaa

/-
  The definition's Crc.
-/
set_option linter.unusedSimpArgs false
namespace Go.Proofs.Ytebpdlggkncliaa
open Go.RowKit
set_option linter.unusedVariables false

theorem halved_any (u : Nat) (w : World) (h1 : u < 4294967296) :
    Calls Try.prog 136 #[.int .u32 (u : Int)] w fun e w' => e = .returned (.int .u32 (halve u : Int)) ∧ w = w' := by
  have hh := halve_int u h1
  by_cases hu : u % 2 = 1
  · have hd : ((u : Int) % 2 == 1) = true := by simp; omega
    rw [if_pos (by omega)] at hh
    have hu2 : (u : Int) % 2 = 1 := by omega
    go_enter Try.func136, Try.ntmps136
    go_wp2_with fail
    go_ret
    exact ⟨rfl, rfl⟩
  · have hd : ((u : Int) % 2 == 1) = false := by simp; omega
    have hu2 : (u : Int) % 2 = 0 := by omega
    rw [if_neg (by omega)] at hh
    go_enter Try.func136, Try.ntmps136
    go_wp2_with fail
    go_ret
    exact ⟨rfl, rfl⟩

theorem still_int (k d : Nat) (hd : d < 32) (h : 8 * k + d < 32) : bits .xor .u32 (still (8 * k) (d + 1) : Int) ((2 : Int) ^ d % 4294967296) = (still (8 * k) d : Int) := by
  have hp : 2 ^ d < 2 ^ 32 := Nat.pow_lt_pow_right (by decide) hd
  have hp' : ((2 ^ d : Nat) : Int) < 4294967296 := by
    have : 2 ^ d < 4294967296 := hp
    omega
  have e : (2 : Int) ^ d % 4294967296 = ((2 ^ d : Nat) : Int) := by
    rw [show (2 : Int) ^ d = ((2 ^ d : Nat) : Int) by push_cast; rfl]
    exact Int.emod_eq_of_lt (Int.natCast_nonneg _) hp'
  rw [e, u32_xor_nat _ _ (still_lt _ _) (by omega), ← still_step k d hd h]

theorem bit_turned {l : List UInt8} {i : Nat} {x : UInt8} (hx : l[i / 8]? = some x) :
    (!((((x.toNat : Int) / 2 ^ (i % 8)).tmod 2 == 1) == decide ((i : Int) < 32))) = decide (turned (bitAt l i) i = 1) := by
  have hb : bitAt l i = x.toNat / 2 ^ (i % 8) % 2 := by unfold bitAt; rw [hx]; rfl
  have hlt := bitAt_lt l i
  have e0 : (x.toNat : Int) / 2 ^ (i % 8) = ((x.toNat / 2 ^ (i % 8) : Nat) : Int) := by rw [Int.natCast_ediv]; simp
  have e : ((x.toNat : Int) / 2 ^ (i % 8)).tmod 2 = ((bitAt l i : Nat) : Int) := by
    rw [e0, hb, Int.tmod_eq_emod_of_nonneg (Int.natCast_nonneg _)]
    exact (Int.natCast_emod _ 2).symm
  rw [e]
  generalize bitAt l i = t at hlt
  unfold turned
  by_cases h32 : i < 32
  · have h32' : (i : Int) < 32 := by omega
    rcases (show t = 0 ∨ t = 1 by omega) with rfl | rfl <;> simp [h32, h32']
  · have h32' : ¬ (i : Int) < 32 := by omega
    rcases (show t = 0 ∨ t = 1 by omega) with rfl | rfl <;> simp [h32, h32']

set_option maxRecDepth 100000 in
set_option maxHeartbeats 1000000 in
theorem refCrc_any (A : Option Addr) (n c : Nat) (l : List UInt8) (w : World) (h : IsB w A n c l) (hn : n ≤ 17592186044416) :
    Calls Try.prog 108 #[.slice A n c] w fun e w' =>
      e = .returned (.int .u32 (crc l : Int)) ∧ Below w.heap.size w w' := by
  go_enter Try.func108, Try.ntmps108
  go_wp2_with fail
  have hI := h
  go_loop [3, 5] (fun v q => ∃ (z : Int) (d : Nat), q = .int .i64 z ∧ v = .int .u32 (still (8 * n) d : Int) ∧ d ≤ 32 ∧ Hid (z = 8 * (n : Int) + d - 1)) (fun _ q => (intOf q - 8 * (n : Int) + 1).toNat)
  case atStart => exact ⟨_, 32, rfl, by rw [still_begin]; rfl, by omega, by show _ = _; omega⟩
  case round =>
    obtain ⟨z, d, rfl, rfl, hd, hz⟩ := hrel
    have hzv := hz.out
    by_cases h0 : 0 < d
    · have dge : decide (8 * (n : Int) ≤ z) = true := by simp; omega
      by_cases h32 : z < 32
      · have d32 : decide (z < 32) = true := by simp; omega
        have hwz : IntKind.i64.wrap (z - 8 * (n : Int)) = z - 8 * (n : Int) := IntWalk.i64_in _ (by omega)
        have hge : 0 ≤ z - 8 * (n : Int) := by omega
        have hge' : 8 * (n : Int) ≤ z := by omega
        have hw1 : IntKind.i64.wrap (z - 1) = z - 1 := IntWalk.i64_in _ (by omega)
        clear hzv
        go_wp2_with fail
        go_round
        case rel =>
          obtain ⟨d, rfl⟩ : ∃ d', d = d' + 1 := ⟨d - 1, by omega⟩
          have hz' := hz.out
          have e : (z - 8 * (n : Int)).toNat = d := by omega
          exact ⟨z - 1, d, rfl, by rw [e, still_int n d (by omega) (by omega)], by omega, by show _ = _; omega⟩
        case measure => have hz' := hz.out; simp [intOf]; omega
      · have d32 : decide (z < 32) = false := by simp; omega
        have hge' : 8 * (n : Int) ≤ z := by omega
        have hw1 : IntKind.i64.wrap (z - 1) = z - 1 := IntWalk.i64_in _ (by omega)
        clear hzv
        go_wp2_with fail
        go_round
        case rel =>
          obtain ⟨d, rfl⟩ : ∃ d', d = d' + 1 := ⟨d - 1, by omega⟩
          have hz' := hz.out
          exact ⟨z - 1, d, rfl, by rw [still_none (8 * n) d (by omega)], by omega, by show _ = _; omega⟩
        case measure => have hz' := hz.out; simp [intOf]; omega
    · obtain rfl : d = 0 := by omega
      have dge : decide (8 * (n : Int) ≤ z) = false := by simp; omega
      have hge' : ¬ 8 * (n : Int) ≤ z := by omega
      rw [still_end]
      clear hzv hz
      go_wp2_with fail
      go_loop [4, 3, 6] (fun wt v q => ∃ (i : Nat) (z2 : Int), q = .int .i64 z2 ∧ i ≤ 8 * n ∧ Hid (z2 = (i : Int) - 1) ∧ v = .int .u32 (tell l (8 * n) i : Int) ∧ wt = .int .u32 (halveN (8 * n - i) 1 : Int)) (fun _ _ q => (intOf q + 1).toNat)
      case atStart => exact ⟨8 * n, _, rfl, Nat.le_refl _, by show _ = _; omega, by rw [tell_end], by rw [Nat.sub_self]; rfl⟩
      case round =>
        obtain ⟨i, z2, rfl, hi, hz2, rfl, rfl⟩ := hrel
        by_cases hi0 : 0 < i
        · obtain ⟨i, rfl⟩ : ∃ i', i = i' + 1 := ⟨i - 1, by omega⟩
          obtain rfl : z2 = (i : Int) := by have := hz2.out; omega
          obtain ⟨b, o, rfl, hcell⟩ : ∃ b o, A = some ⟨b, o, none⟩ ∧ ∀ j u, l[j]? = some u → w.cell? ⟨b, o + j, none⟩ = some (.int .u8 (u.toNat : Int)) := by
            rcases h.src with h0 | h0
            · exact absurd (by rw [h0]; rfl) (show l.length ≠ 0 by have := h.len; omega)
            · exact h0
          obtain ⟨x, hx⟩ : ∃ x, l[i / 8]? = some x := ⟨l[i / 8]'(by have := h.len; omega), List.getElem?_eq_getElem _⟩
          have f1 := hcell _ _ hx
          have hxl := x.toNat_lt
          have hb0 : 0 ≤ (i : Int) / 8 := by omega
          have hb1 : (i : Int) / 8 < (n : Int) := by omega
          have hbt : ((i : Int) / 8).toNat = i / 8 := by omega
          have hrt : ((i : Int) % 8).toNat = i % 8 := by omega
          have hr0 : 0 ≤ (i : Int) % 8 := by omega
          have hq : (i : Int).tdiv 8 = (i : Int) / 8 := Int.tdiv_eq_ediv_of_nonneg (by omega)
          have hr : (i : Int).tmod 8 = (i : Int) % 8 := Int.tmod_eq_emod_of_nonneg (by omega)
          have hw1 : IntKind.i64.wrap ((i : Int) - 1) = (i : Int) - 1 := IntWalk.i64_in _ (by omega)
          have HT := Lib.hid (tell_step l (8 * n) i (by omega))
          have HTl := tell_lt l (8 * n) (i + 1)
          have HW : halveN (8 * n - i) 1 = halve (halveN (8 * n - (i + 1)) 1) := by rw [← halveN_succ, show 8 * n - (i + 1) + 1 = 8 * n - i by omega]
          have HWl := halveN_lt (8 * n - (i + 1)) (u := 1) (by decide)
          have HWd := Lib.hid HW
          clear HW
          generalize halveN (8 * n - (i + 1)) 1 = wt at HWd HWl
          have hbt' := bit_turned hx
          have hwt := halve_lt HWl
          clear hcell hx hI h
          by_cases hb : turned (bitAt l i) i = 1
          · rw [decide_eq_true hb] at hbt'
            have HV : Hid (bits .xor .u32 (tell l (8 * n) (i + 1) : Int) (halve wt : Int) = (tell l (8 * n) i : Int)) := by
              show _ = _
              rw [u32_xor_nat _ _ HTl hwt, HT.out, if_pos hb, HWd.out]
            clear hb
            go_wp2_with fail
            refine (halved_any wt _ HWl).mono ?_
            rintro e w2 ⟨rfl, rfl⟩
            go_wp2_with fail
            go_round
            case rel => exact ⟨i, (i : Int) - 1, rfl, by omega, rfl, by rw [HV.out], by rw [HWd.out]⟩
            case measure => simp [intOf] <;> omega
          · rw [decide_eq_false hb] at hbt'
            have HV : Hid (tell l (8 * n) (i + 1) = tell l (8 * n) i) := by
              show _ = _
              rw [HT.out, if_neg hb, Nat.xor_zero]
            clear hb
            go_wp2_with fail
            refine (halved_any wt _ HWl).mono ?_
            rintro e w2 ⟨rfl, rfl⟩
            go_wp2_with fail
            go_round
            case rel => exact ⟨i, (i : Int) - 1, rfl, by omega, rfl, by rw [HV.out], by rw [HWd.out]⟩
            case measure => simp [intOf] <;> omega
        · obtain rfl : i = 0 := by omega
          have hz3 : ¬ 0 ≤ z2 := by have := hz2.out; omega
          have hlen := h.len
          have HR : Hid (tell l (8 * n) 0 = crcReg 4294967295 l) := by subst hlen; exact tell_zero l
          have hC : IntKind.u32.wrap (4294967295 - (tell l (8 * n) 0 : Int)) = (crc l : Int) := by
            have := tell_lt l (8 * n) 0
            rw [IntKind.wrap_u32, show crc l = 4294967295 - crcReg 4294967295 l from rfl, ← HR.out]
            omega
          clear hlen hz2 h hI
          go_wp2_with fail
          go_ret
          exact ⟨rfl, Below.refl _ _⟩
end Go.Proofs.Ytebpdlggkncliaa

/-
  SameBytes, CopyBytes, Pick: what statements do with lists.
-/
set_option linter.unusedVariables false
set_option linter.unusedSimpArgs false
namespace Go.Proofs.Ytebpdlggkncliaa
open Go.RowKit

theorem str_same2 {l m : List UInt8} {s t : ByteArray} (hs : s = ⟨l.toArray⟩) (ht : t = ⟨m.toArray⟩) : (s.toList == t.toList) = decide (l = m) := by
  subst hs; subst ht
  rw [Lib.toList_data, Lib.toList_data]
  by_cases h : l = m
  · subst h; simp
  · rw [decide_eq_false h]
    exact beq_false_of_ne fun hh => h (by simpa using hh)
theorem conv_str (w : World) {A : Option Addr} {n c : Nat} {l : List UInt8} (h : IsB w A n c l) {s : ByteArray} (hs : s = ⟨l.toArray⟩) : (convert 26 9 (.slice A n c)).run Try.prog w = .ok (.string s) w := by
  subst hs
  exact run_str w 26 9 5 Try.underlying26 Try.underlying5 Try.underlying9 A n c l h

set_option maxRecDepth 100000 in
theorem samebytes_any {w : World} {A : Option Addr} {n c : Nat} {l : List UInt8} {B : Option Addr} {m d : Nat} {k : List UInt8} (h1 : IsB w A n c l) (h2 : IsB w B m d k) :
    Calls Try.prog 34 #[.slice A n c, .slice B m d] w fun e w' => e = .returned (.bool (decide (l = k))) ∧ w = w' := by
  obtain ⟨s, hs⟩ : ∃ s : ByteArray, s = ⟨l.toArray⟩ := ⟨_, rfl⟩
  obtain ⟨t, ht⟩ : ∃ s : ByteArray, s = ⟨k.toArray⟩ := ⟨_, rfl⟩
  have hE := str_same2 hs ht
  have f1 := conv_str w h1 hs
  have f2 := conv_str w h2 ht
  rw [← hE]
  clear hE hs ht
  go_enter Try.func34, Try.ntmps34
  go_wp2_with fail
  go_ret
  exact ⟨rfl, rfl⟩

end Go.Proofs.Ytebpdlggkncliaa

/-
  Up to four bytes of a frame's body turned: plain facts, without the program.
-/
set_option linter.unusedVariables false
namespace Go.Proofs.Ytebpdlggkncliaa
open Go.RowKit
open Go.Lib (uvarint)

theorem toNat_xor8 (x y : UInt8) : (x ^^^ y).toNat = x.toNat ^^^ y.toNat := UInt8.toNat_xor x y
theorem crcReg_zip : ∀ (l d : List UInt8) (r s : Nat), l.length = d.length → crcReg (r ^^^ s) (List.zipWith (fun x y => x ^^^ y) l d) = crcReg r l ^^^ crcReg s d
  | [], [], r, s, _ => rfl
  | [], _ :: _, _, _, h => by simp at h
  | _ :: _, [], _, _, h => by simp at h
  | x :: l, y :: d, r, s, h => by
    rw [List.zipWith_cons_cons]
    show crcReg (crcStep (r ^^^ s) (x ^^^ y).toNat) _ = crcReg (crcStep r x.toNat) l ^^^ crcReg (crcStep s y.toNat) d
    rw [← crcReg_zip l d _ _ (by simpa using h)]
    congr 1
    unfold crcStep
    rw [← halveN_xor, toNat_xor8, xor_swap]
/-- the number that some bytes turn -/
def numOf : List UInt8 → Nat
  | [] => 0
  | x :: l => x.toNat + 256 * numOf l
theorem numOf_lt : ∀ l : List UInt8, numOf l < 256 ^ l.length
  | [] => by simp [numOf]
  | x :: l => by
    have h1 := numOf_lt l
    have h2 := x.toNat_lt
    show x.toNat + 256 * numOf l < 256 ^ (l.length + 1)
    rw [Nat.pow_succ]
    omega
theorem numOf_zero : ∀ l : List UInt8, numOf l = 0 → ∀ u ∈ l, u = 0
  | [], _, u, hu => by cases hu
  | x :: l, h, u, hu => by
    have h' : x.toNat + 256 * numOf l = 0 := h
    rcases List.mem_cons.1 hu with rfl | hu
    · exact UInt8.toNat_inj.1 (by show u.toNat = 0; omega)
    · exact numOf_zero l (by omega) u hu
theorem halve_double (m : Nat) : halve (2 * m) = m := by
  unfold halve
  rw [if_neg (by omega)]
  omega
theorem halve8 (q : Nat) : halveN 8 (256 * q) = q := by
  have e : 256 * q = 2 * (2 * (2 * (2 * (2 * (2 * (2 * (2 * q))))))) := by omega
  rw [e]
  show halve (halve (halve (halve (halve (halve (halve (halve _))))))) = q
  rw [halve_double, halve_double, halve_double, halve_double, halve_double, halve_double, halve_double, halve_double]
theorem add_low (x q : Nat) (h : x < 256) : x + 256 * q = x ^^^ 256 * q := by
  have h2 := Nat.two_pow_add_eq_or_of_lt (i := 8) (b := x) (by omega) q
  have h3 : 256 * q ^^^ x = 256 * q ||| x := by
    apply Nat.eq_of_testBit_eq
    intro i
    rw [Nat.testBit_xor, Nat.testBit_or]
    have e : 256 * q = q <<< 8 := by rw [Nat.shiftLeft_eq]; omega
    by_cases hi : i < 8
    · rw [e, Nat.testBit_shiftLeft]; simp [show ¬ 8 ≤ i by omega]
    · have : x.testBit i = false := Nat.testBit_lt_two_pow (Nat.lt_of_lt_of_le h (by have := Nat.pow_le_pow_right (n := 2) (by decide) (show 8 ≤ i by omega); simpa using this))
      rw [this]; simp
  rw [Nat.xor_comm, h3, ← h2]
  omega
theorem crcReg_num : ∀ (l : List UInt8) (r : Nat), crcReg r l = halveN (8 * l.length) (r ^^^ numOf l)
  | [], r => by
    have e : r ^^^ numOf [] = r := Nat.xor_zero r
    rw [e]
    rfl
  | x :: l, r => by
    have e1 : numOf (x :: l) = x.toNat ^^^ 256 * numOf l := add_low _ _ x.toNat_lt
    have e2 : 8 * (x :: l).length = 8 * l.length + 8 := by rw [List.length_cons]; omega
    rw [crcReg_cons, crcReg_num l, e1, e2, ← Nat.xor_assoc, halveN_add, halveN_xor 8, halve8]
    unfold crcStep
    rfl
theorem crcReg_nought (m : Nat) : crcReg 0 (List.replicate m 0) = 0 := by rw [crcReg_zeros, halveN_zero]
/-- what is turned, place by place -/
def turnAt (a i : Nat) (t : List UInt8) (j : Nat) : UInt8 := if a ≤ j ∧ j < a + i then t.getD (j - a) 0 else 0
def turned_ (l : List UInt8) (a i : Nat) (t : List UInt8) : List UInt8 := l.mapIdx fun j x => x ^^^ turnAt a i t j
theorem turned_length (l : List UInt8) (a i : Nat) (t : List UInt8) : (turned_ l a i t).length = l.length := by simp [turned_]
theorem turned_zero (l : List UInt8) (a : Nat) (t : List UInt8) : turned_ l a 0 t = l := by
  unfold turned_
  apply List.ext_getElem
  · simp
  · intro j h1 h2
    rw [List.getElem_mapIdx]
    unfold turnAt
    rw [if_neg (by omega)]
    simp
theorem turned_none {l : List UInt8} {a i : Nat} {t : List UInt8} (h : ∀ u ∈ t.take i, u = 0) : turned_ l a i t = l := by
  unfold turned_
  apply List.ext_getElem
  · simp
  · intro j h1 h2
    rw [List.getElem_mapIdx]
    have : turnAt a i t j = 0 := by
      unfold turnAt
      split
      · rename_i hj
        by_cases ht : j - a < t.length
        · rw [List.getD_eq_getElem?_getD, List.getElem?_eq_getElem ht]
          exact h _ (List.mem_take_iff_getElem.2 ⟨j - a, by omega, rfl⟩)
        · rw [List.getD_eq_getElem?_getD, List.getElem?_eq_none (by omega)]
          rfl
      · rfl
    rw [this]
    simp
theorem turned_step {l : List UInt8} {a i : Nat} {t : List UInt8} {x u : UInt8} (hx : (turned_ l a i t)[a + i]? = some x) (hu : t[i]? = some u) :
    (turned_ l a i t).set (a + i) (x ^^^ u) = turned_ l a (i + 1) t := by
  apply List.ext_getElem
  · simp [turned_]
  · intro j h1 h2
    rw [List.getElem_set]
    have hj : j < l.length := by simpa [turned_] using h2
    by_cases e : a + i = j
    · subst e
      rw [if_pos rfl]
      have hx' : x = l[a + i] := by
        have := (List.getElem?_eq_some_iff.1 hx).2
        rw [← this]
        simp only [turned_, List.getElem_mapIdx]
        unfold turnAt
        rw [if_neg (by omega)]
        simp
      simp only [turned_, List.getElem_mapIdx]
      rw [hx']
      unfold turnAt
      rw [if_pos (by omega), show a + i - a = i by omega, List.getD_eq_getElem?_getD, hu]
      rfl
    · rw [if_neg e]
      simp only [turned_, List.getElem_mapIdx]
      congr 1
      unfold turnAt
      by_cases c : a ≤ j ∧ j < a + i
      · rw [if_pos c, if_pos (by omega)]
      · rw [if_neg c, if_neg (by omega)]
theorem turned_crc {l : List UInt8} {a i : Nat} {t : List UInt8} (hi : i ≤ 4) (ht : t.length = 4) (ha : a + i ≤ l.length) (h : crc (turned_ l a i t) = crc l) : ∀ u ∈ t.take i, u = 0 := by
  have hd : turned_ l a i t = List.zipWith (fun x y => x ^^^ y) l (List.replicate a 0 ++ (t.take i ++ List.replicate (l.length - (a + i)) 0)) := by
    have hlen : (t.take i).length = i := by rw [List.length_take]; omega
    apply List.ext_getElem
    · simp [turned_, ht]; omega
    · intro j h1 h2
      have hj : j < l.length := by simpa [turned_] using h1
      simp only [turned_, List.getElem_mapIdx, List.getElem_zipWith]
      congr 1
      unfold turnAt
      by_cases c1 : j < a
      · rw [if_neg (by omega), List.getElem_append_left (by simpa using c1), List.getElem_replicate]
      · by_cases c2 : j < a + i
        · rw [if_pos (by omega), List.getElem_append_right (by simp; omega), List.getElem_append_left (by simp; omega), List.getElem_take]
          rw [List.getD_eq_getElem?_getD, List.getElem?_eq_getElem (by omega)]
          simp
        · rw [if_neg (by omega), List.getElem_append_right (by simp; omega), List.getElem_append_right (by simp; omega), List.getElem_replicate]
  have h1 := crc_inj h
  rw [hd] at h1
  have h2 := crcReg_zip l (List.replicate a 0 ++ (t.take i ++ List.replicate (l.length - (a + i)) 0)) 4294967295 0 (by simp [ht]; omega)
  rw [Nat.xor_zero, h1] at h2
  have h3 : crcReg 0 (List.replicate a 0 ++ (t.take i ++ List.replicate (l.length - (a + i)) 0)) = 0 := by
    have h4 : crcReg 4294967295 l ^^^ crcReg 4294967295 l = crcReg 4294967295 l ^^^ (crcReg 4294967295 l ^^^ crcReg 0 (List.replicate a 0 ++ (t.take i ++ List.replicate (l.length - (a + i)) 0))) := by rw [← h2]
    rw [Nat.xor_self, ← Nat.xor_assoc, Nat.xor_self, Nat.zero_xor] at h4
    exact h4.symm
  rw [crcReg_append, crcReg_nought, crcReg_append, crcReg_zeros] at h3
  have hlt : crcReg 0 (t.take i) < 4294967296 := crcReg_lt _ (by decide)
  have h5 := halveN_eq_zero _ hlt h3
  rw [crcReg_num, Nat.zero_xor] at h5
  have hn : numOf (t.take i) < 4294967296 := by
    have := numOf_lt (t.take i)
    have h6 : 256 ^ (t.take i).length ≤ 256 ^ 4 := Nat.pow_le_pow_right (by decide) (by rw [List.length_take]; omega)
    have h7 : (256 : Nat) ^ 4 = 4294967296 := by decide
    omega
  exact numOf_zero _ (halveN_eq_zero _ hn h5)

/-- the frame with another body as long -/
def frameAs (b b' : List UInt8) : List UInt8 := uvarint b.length ++ (b' ++ sumBytes (crc b))
theorem frameAs_self (es : List Ev) : frameAs (bodyOf es) (bodyOf es) = frameOf es := rfl
theorem rd_turned {b b' : List UInt8} (hl : b'.length = b.length) (hb : b.length ≤ 262144) (hc : crc b' ≠ crc b) : rdFrame (frameAs b b') 0 = ([], 0, 12) := by
  have hg : getU ((frameAs b b').drop 0) = (b.length, (uvarint b.length).length, 0) := by
    rw [List.drop_zero]; unfold frameAs; exact getU_uvarint _ (by omega)
  have hlen : (frameAs b b').length = (uvarint b.length).length + b.length + 4 := by
    unfold frameAs
    rw [List.length_append, List.length_append, sumBytes_length, hl]; omega
  unfold rdFrame
  rw [hg]
  simp only [Nat.zero_add]
  rw [if_neg (by simp), if_neg (by omega), if_neg (by omega)]
  have e2 : ((frameAs b b').drop (uvarint b.length).length).take b.length = b' := by
    unfold frameAs
    rw [List.drop_left, ← hl, List.take_left]
  have e3 : ((frameAs b b').drop ((uvarint b.length).length + b.length)).take 4 = sumBytes (crc b) := by
    unfold frameAs
    rw [← List.drop_drop, List.drop_left, ← hl, List.drop_left, List.take_of_length_le (by rw [sumBytes_length]; omega)]
  rw [e2, e3, if_pos]
  intro e
  exact hc (sumBytes_inj (crc_lt _) (crc_lt _) e).symm
theorem frameAs_set {b b' : List UInt8} (k : Nat) (u : UInt8) (hk : k < b'.length) : (frameAs b b').set ((uvarint b.length).length + k) u = frameAs b (b'.set k u) := by
  unfold frameAs
  rw [List.set_append_right _ _ (by omega), show (uvarint b.length).length + k - (uvarint b.length).length = k by omega, List.set_append_left _ _ hk]
theorem frameAs_get {b b' : List UInt8} {k : Nat} {x : UInt8} (hx : b'[k]? = some x) : (frameAs b b')[(uvarint b.length).length + k]? = some x := by
  have hk := (List.getElem?_eq_some_iff.1 hx).1
  unfold frameAs
  rw [List.getElem?_append_right (by omega), show (uvarint b.length).length + k - (uvarint b.length).length = k by omega, List.getElem?_append_left hk]
  exact hx
/-- where a number ends -/
theorem uvarint_ends : ∀ (n j : Nat), j < (uvarint n).length → ∃ u, (uvarint n)[j]? = some u ∧ (128 ≤ u.toNat ↔ j + 1 < (uvarint n).length)
  | n, 0, h => by
    by_cases hs : n < 128
    · rw [Lib.uvarint_small hs]
      refine ⟨_, rfl, ?_⟩
      rw [byte_toNat (by omega)]
      simp; omega
    · rw [Lib.uvarint_big (by omega)]
      refine ⟨_, rfl, ?_⟩
      rw [byte_toNat (by omega)]
      have := Lib.uvarint_pos (n / 128)
      rw [List.length_cons]
      omega
  | n, j + 1, h => by
    by_cases hs : n < 128
    · rw [Lib.uvarint_small hs] at h
      simp at h
    · rw [Lib.uvarint_big (by omega)] at h ⊢
      obtain ⟨u, hu, hi⟩ := uvarint_ends (n / 128) j (by simpa using h)
      refine ⟨u, by rw [List.getElem?_cons_succ]; exact hu, ?_⟩
      rw [hi, List.length_cons]
      omega
end Go.Proofs.Ytebpdlggkncliaa

/-
  What is put is got; frames that are cut, or of which a byte is another one: plain facts, without the program.
-/
set_option linter.unusedVariables false
namespace Go.Proofs.Ytebpdlggkncliaa
open Go.RowKit
open Go.Lib (uvarint)

theorem len_add (a b : List UInt8) : (a ++ b).length = a.length + b.length := List.length_append
theorem encEvs_append : ∀ (a b : List Ev) (p : Ev), encEvs p (a ++ b) = encEvs p a ++ encEvs (lastEv p a) b
  | [], _, _ => rfl
  | x :: a, b, p => by
    show encEv p x ++ encEvs x (a ++ b) = (encEv p x ++ encEvs x a) ++ _
    rw [encEvs_append a b x, List.append_assoc]
    rfl
theorem put_step {b : List UInt8} {l : List Ev} {j : Nat} {x : Ev} (hx : l[j]? = some x) : b ++ encEvs Ev.zero (l.take (j + 1)) = (b ++ encEvs Ev.zero (l.take j)) ++ encEv (lastEv Ev.zero (l.take j)) x := by
  obtain ⟨hj, ex⟩ := List.getElem?_eq_some_iff.1 hx
  rw [List.take_succ_eq_append_getElem hj, ex, encEvs_snoc, List.append_assoc]
theorem last_step {l : List Ev} {j : Nat} {x : Ev} (hx : l[j]? = some x) : lastEv Ev.zero (l.take (j + 1)) = x := by
  obtain ⟨hj, ex⟩ := List.getElem?_eq_some_iff.1 hx
  rw [List.take_succ_eq_append_getElem hj, ex, lastEv_snoc]
theorem get_step {b : List UInt8} {l : List Ev} {j : Nat} {x : Ev} (hx : l[j]? = some x) (ho : x.ok) :
    getEv (lastEv Ev.zero (l.take j)) (b ++ encEvs Ev.zero l) (b ++ encEvs Ev.zero (l.take j)).length = (x, (b ++ encEvs Ev.zero (l.take (j + 1))).length, 0) := by
  obtain ⟨hj, ex⟩ := List.getElem?_eq_some_iff.1 hx
  have e : b ++ encEvs Ev.zero l = (b ++ encEvs Ev.zero (l.take j)) ++ (encEv (lastEv Ev.zero (l.take j)) x ++ encEvs x (l.drop (j + 1))) := by
    conv => lhs; rw [← List.take_append_drop j l, encEvs_append, List.drop_eq_getElem_cons hj, ex]
    rw [List.append_assoc]
    rfl
  have hd : (b ++ encEvs Ev.zero l).drop (b ++ encEvs Ev.zero (l.take j)).length = encEv (lastEv Ev.zero (l.take j)) x ++ encEvs x (l.drop (j + 1)) := by
    conv => lhs; rw [e, List.drop_left]
  rw [getEv_enc ho hd, put_step hx, len_add (b ++ encEvs Ev.zero (l.take j)) _]
theorem get_rise {b : List UInt8} {l : List Ev} {j : Nat} {x : Ev} (hx : l[j]? = some x) : (b ++ encEvs Ev.zero (l.take j)).length < (b ++ encEvs Ev.zero (l.take (j + 1))).length := by
  rw [put_step hx, len_add (b ++ encEvs Ev.zero (l.take j)) _]
  have := encEv_least (lastEv Ev.zero (l.take j)) x
  omega
theorem put_le (b : List UInt8) (l : List Ev) (j : Nat) : (b ++ encEvs Ev.zero (l.take j)).length ≤ (b ++ encEvs Ev.zero l).length := by
  have e : encEvs Ev.zero l = encEvs Ev.zero (l.take j) ++ encEvs (lastEv Ev.zero (l.take j)) (l.drop j) := by
    conv => lhs; rw [← List.take_append_drop j l, encEvs_append]
  rw [e, List.length_append, List.length_append, List.length_append]
  omega
theorem put_most {b : List UInt8} {l : List Ev} (hb : b.length ≤ 2000) (hl : l.length ≤ 300) (j : Nat) : (b ++ encEvs Ev.zero (l.take j)).length ≤ 14300 := by
  have h1 := encEvs_most (l.take j) Ev.zero
  rw [List.length_take] at h1
  rw [List.length_append]
  omega
/-- a number that is cut wants bytes -/
theorem scan_cut : ∀ (f j x acc k : Nat), f + j = 10 → (j = 0 ∨ 0 < x) → x * 2 ^ (7 * j) < 18446744073709551616 → k < (uvarint x).length → scan f j acc ((uvarint x).take k) = (0, 0, 11)
  | 0, j, x, acc, k, hf, hx0, hx, hk => by
    obtain rfl : j = 10 := by omega
    have h70 : (2 : Nat) ^ (7 * 10) = 1180591620717411303424 := by decide
    rw [h70] at hx
    omega
  | f + 1, j, x, acc, 0, _, _, _, _ => rfl
  | f + 1, j, x, acc, k + 1, hf, hx0, hx, hk => by
    have h9 : j = 9 → x < 2 := by
      rintro rfl
      rw [show 2 ^ (7 * 9) = 9223372036854775808 by decide] at hx
      omega
    by_cases hs : x < 128
    · rw [Lib.uvarint_small hs] at hk
      simp at hk
    · rw [Lib.uvarint_big (by omega)] at hk ⊢
      have hb : ((x % 128 + 128).toUInt8).toNat = x % 128 + 128 := byte_toNat (by omega)
      have hj : j < 9 := by
        by_cases hj : j < 9
        · exact hj
        · have := h9 (by omega); omega
      have hm : mayB (x % 128 + 128) j = true := by
        unfold mayB
        rw [if_neg (by omega)]
        simp [hj]
      have hp : 2 ^ (7 * (j + 1)) = 128 * 2 ^ (7 * j) := by
        rw [show 7 * (j + 1) = 7 + 7 * j by omega, Nat.pow_add]
      have hle : x / 128 * 2 ^ (7 * (j + 1)) ≤ x * 2 ^ (7 * j) := by
        rw [hp, ← Nat.mul_assoc]
        exact Nat.mul_le_mul_right _ (by omega)
      rw [List.take_succ_cons, scan, hb, if_pos hm, if_neg (by omega)]
      exact scan_cut f (j + 1) (x / 128) _ k (by omega) (.inr (by omega)) (Nat.lt_of_le_of_lt hle hx) (by simpa using hk)
theorem rd_cut {es : List Ev} (he : Evs es) {k : Nat} (hk : k < (frameOf es).length) : rdFrame ((frameOf es).take k) 0 = ([], 0, 11) := by
  have hm := bodyOf_most he.most
  rw [frameOf_length] at hk
  by_cases hh : k < (uvarint (bodyOf es).length).length
  · have e : (frameOf es).take k = (uvarint (bodyOf es).length).take k := by
      unfold frameOf
      rw [List.take_append_of_le_length (by omega)]
    have hg : getU (((frameOf es).take k).drop 0) = (0, 0, 11) := by
      rw [List.drop_zero, e]
      exact scan_cut 10 0 _ 0 k rfl (.inl rfl) (by simp; omega) hh
    unfold rdFrame
    rw [hg]
    rfl
  · have e : (frameOf es).take k = uvarint (bodyOf es).length ++ (sealed (bodyOf es)).take (k - (uvarint (bodyOf es).length).length) := by
      unfold frameOf
      rw [List.take_append, List.take_of_length_le (by omega)]
    have hg : getU (((frameOf es).take k).drop 0) = ((bodyOf es).length, (uvarint (bodyOf es).length).length, 0) := by
      rw [List.drop_zero, e]
      exact getU_uvarint _ (by omega)
    have hl : ((frameOf es).take k).length ≤ k := by rw [List.length_take]; omega
    unfold rdFrame
    rw [hg]
    simp only
    rw [if_neg (by simp), if_neg (by omega), if_pos (by omega)]
theorem rd_other {es : List Ev} {k : Nat} {x u : UInt8} (hx : (frameOf es)[k]? = some x) (hu : u ≠ 0) (h : (rdFrame ((frameOf es).set k (x ^^^ u)) 0).2.2 = 0) : (rdFrame ((frameOf es).set k (x ^^^ u)) 0).1 ≠ es := by
  intro e
  obtain ⟨_, r, hd, _⟩ := rdFrame_sound h
  rw [e, List.drop_zero] at hd
  have hl := congrArg List.length hd
  rw [List.length_set, List.length_append] at hl
  have hr : r = [] := List.eq_nil_of_length_eq_zero (by omega)
  rw [hr, List.append_nil] at hd
  have hk := (List.getElem?_eq_some_iff.1 hx).1
  have h1 : ((frameOf es).set k (x ^^^ u))[k]? = some (x ^^^ u) := by rw [List.getElem?_set_self hk]
  rw [hd, hx] at h1
  have h2 := congrArg UInt8.toNat (Option.some.inj h1)
  rw [toNat_xor8] at h2
  have h3 : x.toNat ^^^ (x.toNat ^^^ u.toNat) = x.toNat ^^^ x.toNat := by rw [← h2]
  rw [← Nat.xor_assoc, Nat.xor_self, Nat.zero_xor] at h3
  exact hu (UInt8.toNat_inj.1 h3)
/-- what is read of any bytes, framed again -/
theorem rd_back {b : List UInt8} (h : (rdFrame b 0).2.2 = 0) : Evs (rdFrame b 0).1 ∧ b.take (rdFrame b 0).2.1 = frameOf (rdFrame b 0).1 ∧ 1 ≤ (rdFrame b 0).2.1 ∧ (rdFrame b 0).2.1 ≤ b.length := by
  obtain ⟨he, r, hd, hn⟩ := rdFrame_sound h
  rw [List.drop_zero] at hd
  rw [Nat.zero_add] at hn
  have hl := frameOf_length (rdFrame b 0).1
  refine ⟨he, ?_, by omega, ?_⟩
  · rw [hn]
    generalize frameOf (rdFrame b 0).1 = q at hd
    rw [hd, List.take_left]
  · have := congrArg List.length hd
    rw [List.length_append] at this
    omega
end Go.Proofs.Ytebpdlggkncliaa

/-
  What arguments with depth hold, as the row's reading gives it: slices of whatever elements, read as lists.
-/
set_option linter.unusedVariables false
namespace Go.Proofs.Ytebpdlggkncliaa
open Go.RowKit Go.Deep Go.ChangeShapes Go.WideShapes

/-- a slice whose elements, of k cells each, read as these by Rel -/
structure IsL {α : Type} (k : Nat) (Rel : List Value → α → Prop) (w : World) (A : Option Addr) (n c : Nat) (xs : List α) : Prop where
  len : xs.length = n
  cap : n ≤ c
  max : c ≤ maxLen
  none_ : A = none → c = 0
  src : xs = [] ∨ ∃ b o, A = some ⟨b, o, none⟩ ∧ ∀ j x, xs[j]? = some x → ∃ cs : List Value, cs.length = k ∧ (∀ i u, cs[i]? = some u → w.cell? ⟨b, o + j * k + i, none⟩ = some u) ∧ Rel cs x

theorem list_of {α : Type} {P : Nat → α → Prop} : ∀ n : Nat, (∀ i, i < n → ∃ x, P i x) → ∃ xs : List α, xs.length = n ∧ ∀ i x, xs[i]? = some x → P i x
  | 0, _ => ⟨[], rfl, fun i x h => by simp at h⟩
  | n + 1, h => by
    obtain ⟨xs, hl, hx⟩ := list_of n fun i hi => h i (by omega)
    obtain ⟨y, hy⟩ := h n (by omega)
    refine ⟨xs ++ [y], by simp [hl], fun i x hi => ?_⟩
    rcases Nat.lt_or_ge i n with hin | hin
    · rw [List.getElem?_append_left (by omega)] at hi
      exact hx i x hi
    · rw [List.getElem?_append_right (by omega)] at hi
      have : i - xs.length = 0 := by
        rcases Nat.eq_zero_or_pos (i - xs.length) with h0 | h0
        · exact h0
        · rw [List.getElem?_eq_none (by simp; omega)] at hi; cases hi
      rw [this] at hi
      simp at hi
      subst hi
      have : i = n := by omega
      subst this
      exact hy

section
variable {H : Type} {enc : TypeId × Value → H} {P : Program} {w : World} {base : Nat} {held : Bool}
theorem open_list {α : Type} (k : Nat) (Rel : List Value → α → Prop) {t e : TypeId} {fuel : Nat} {v : Value} {x : DataW H × List MemPlace} (ht : P.underlying t = some (.slice e)) (hk : P.cellsOf e = k) (hk0 : 0 < k)
    (hel : ∀ (cs : List Value) (n : Nat) (y : DataW H × List MemPlace), cs.length = k → DataW.trod enc P w base (fun _ => true) held n e cs = some y → ∃ a, Rel cs a)
    (h : DataW.trod enc P w base (fun _ => true) held fuel t [v] = some x) :
    ∃ A n c xs, v = .slice A n c ∧ IsL k Rel w A n c xs := by
  subst hk
  rcases open_slice ht h with ⟨hcs, _⟩ | ⟨a, len, cap, m, n, D, Pl, hcs, hb, hl, hm, hmm, hx, hi⟩
  · simp at hcs
    exact ⟨none, 0, 0, [], hcs, rfl, Nat.le_refl _, Nat.zero_le _, fun _ => rfl, .inl rfl⟩
  · simp at hcs
    simp at hmm
    subst hmm
    have hall : ∀ i, i < len → ∃ a', (∃ cs : List Value, cs.length = P.cellsOf e ∧ (∀ j u, cs[j]? = some u → w.cell? ((a.add (i * P.cellsOf e)).add j) = some u) ∧ Rel cs a') := fun i hil => by
      obtain ⟨cs', hc, ht'⟩ := hi i (by omega)
      obtain ⟨_, hcl, hat⟩ := World.cells?_some hc
      obtain ⟨a', ha'⟩ := hel cs' n _ hcl ht'
      refine ⟨a', cs', hcl, fun j u hu => ?_, ha'⟩
      have hj : j < cs'.length := (List.getElem?_eq_some_iff.1 hu).1
      rw [hat j (by omega), hu]
    obtain ⟨xs, hxl, hxs⟩ := list_of len hall
    refine ⟨some a, len, m, xs, hcs, hxl, hl, hm, (fun e => by cases e), ?_⟩
    rcases Nat.eq_zero_or_pos len with h0 | h0
    · subst h0; exact .inl (List.eq_nil_of_length_eq_zero hxl)
    · have hsp : a.spot = none := by
        obtain ⟨cs', hcl, hat, _⟩ := hxs 0 xs[0] (List.getElem?_eq_getElem (by omega))
        have := hat 0 cs'[0] (List.getElem?_eq_getElem (by omega))
        simpa [Addr.add] using World.cell?_spot this
      obtain ⟨b, o, spot⟩ := a
      simp at hsp
      subst hsp
      refine .inr ⟨b, o, rfl, fun j x hj => ?_⟩
      obtain ⟨cs, hcl, hat, hr⟩ := hxs j x hj
      refine ⟨cs, hcl, fun i u hu => ?_, hr⟩
      have := hat i u hu
      rwa [Addr.add_lit, Addr.add_lit] at this

theorem open_bytes {t e : TypeId} {fuel : Nat} {v : Value} {x : DataW H × List MemPlace} (ht : P.underlying t = some (.slice e)) (he : P.underlying e = some (.int .u8)) (hc : P.cellsOf e = 1)
    (h : DataW.trod enc P w base (fun _ => true) held fuel t [v] = some x) : ∃ A n c l, v = .slice A n c ∧ IsB w A n c l ∧ c ≤ maxLen := by
  rcases open_ints ht he hc h with ⟨hcs, _⟩ | ⟨a, len, cap, zs, hcs, _, hl, hm, hz, _, hcell, hwz⟩
  · simp at hcs
    exact ⟨none, 0, 0, [], hcs, IsB.nil w, Nat.zero_le _⟩
  · simp at hcs
    obtain ⟨l, hB⟩ := isB_of_row hl (by simpa using hz) hcell hwz
    exact ⟨some a, len, cap, l, hcs, hB, hm⟩
end

theorem IsL.below {α : Type} {k : Nat} {Rel Rel' : List Value → α → Prop} {w w' : World} {A : Option Addr} {n c : Nat} {xs : List α} (h : IsL k Rel w A n c xs) (hb : Below w.heap.size w w') (hr : ∀ cs x, Rel cs x → Rel' cs x) : IsL k Rel' w' A n c xs := by
  refine ⟨h.len, h.cap, h.max, h.none_, ?_⟩
  rcases h.src with h0 | ⟨b, o, hA, hc⟩
  · exact .inl h0
  · refine .inr ⟨b, o, hA, fun j x hj => ?_⟩
    obtain ⟨cs, hl, hat, hx⟩ := hc j x hj
    exact ⟨cs, hl, fun i u hu => cell_below hb _ _ (hat i u hu), hr _ _ hx⟩
/-- the one element's cells -/
theorem IsL.at_ {α : Type} {k : Nat} {Rel : List Value → α → Prop} {w : World} {A : Option Addr} {n c : Nat} {xs : List α} (h : IsL k Rel w A n c xs) {j : Nat} (hj : j < n) :
    ∃ b o x cs, A = some ⟨b, o, none⟩ ∧ xs[j]? = some x ∧ cs.length = k ∧ (∀ i u, cs[i]? = some u → w.cell? ⟨b, o + j * k + i, none⟩ = some u) ∧ Rel cs x := by
  have hl := h.len
  have hx : xs[j]? = some (xs[j]'(by omega)) := List.getElem?_eq_getElem (by omega)
  rcases h.src with h0 | ⟨b, o, hA, hc⟩
  · rw [h0] at hl; simp at hl; omega
  · obtain ⟨cs, h1, h2, h3⟩ := hc j _ hx
    exact ⟨b, o, _, cs, hA, hx, h1, h2, h3⟩
end Go.Proofs.Ytebpdlggkncliaa

/-
  Events, and arrays of four, that came in: as the row's reading gives them.
-/
set_option linter.unusedVariables false
set_option maxRecDepth 100000
namespace Go.Proofs.Ytebpdlggkncliaa
open Go.RowKit Go.Deep Go.ChangeShapes Go.WideShapes

theorem in64_of {n : Int} (h : (Lit.int .i64 n).wf = true) : In64 n := wf_i64 h
section
variable {H : Type} {enc : TypeId × Value → H} {w : World} {base : Nat} {held : Bool} {fuel : Nat}
theorem five {cs : List Value} (h : cs.length = 5) : ∃ a b c d e, cs = [a, b, c, d, e] := by
  match cs, h with
  | [a, b, c, d, e], _ => exact ⟨a, b, c, d, e, rfl⟩
theorem four_ {cs : List Value} (h : cs.length = 4) : ∃ a b c d, cs = [a, b, c, d] := by
  match cs, h with
  | [a, b, c, d], _ => exact ⟨a, b, c, d, rfl⟩
theorem open_evcells {cs : List Value} {x : DataW H × List MemPlace} (h : DataW.trod enc Try.prog w base (fun _ => true) held fuel 70 cs = some x) :
    ∃ e : Ev, e.ok ∧ cs = e.cells := by
  obtain ⟨ys, n', _, _, hcl, hyl, hf⟩ := DataW.trod_struct Try.underlying70 h
  have k5 : Try.prog.cellsOf 70 = 5 := by kernel_rfl
  rw [k5] at hcl
  obtain ⟨c0, c1, c2, c3, c4, rfl⟩ := five hcl
  have ki : Try.prog.cellsOf 3 = 1 := by kernel_rfl
  have kl : Try.prog.cellsOf 2 = 1 := by kernel_rfl
  have ko : Try.prog.cellsOf 68 = 1 := by kernel_rfl
  have f0 : DataW.trod enc Try.prog w base (fun _ => true) held n' 3 [c0] = ys[0]? := by have := hf 0 _ rfl; simpa [ki] using this
  have f1 : DataW.trod enc Try.prog w base (fun _ => true) held n' 68 [c1] = ys[1]? := by have := hf 1 _ rfl; simpa [ko] using this
  have f2 : DataW.trod enc Try.prog w base (fun _ => true) held n' 3 [c2] = ys[2]? := by have := hf 2 _ rfl; simpa [ki] using this
  have f3 : DataW.trod enc Try.prog w base (fun _ => true) held n' 2 [c3] = ys[3]? := by have := hf 3 _ rfl; simpa [kl] using this
  have f4 : DataW.trod enc Try.prog w base (fun _ => true) held n' 2 [c4] = ys[4]? := by have := hf 4 _ rfl; simpa [kl] using this
  have hyl : ys.length = 5 := by assumption
  rw [List.getElem?_eq_getElem (by omega)] at f0 f1 f2 f3 f4
  obtain ⟨a0, h0, _, w0⟩ := DataW.trod_int Try.underlying3 f0
  obtain ⟨a1, h1, _, w1⟩ := DataW.trod_int Try.underlying68 f1
  obtain ⟨a2, h2, _, w2⟩ := DataW.trod_int Try.underlying3 f2
  obtain ⟨a3, h3, _, w3⟩ := DataW.trod_int Try.underlying2 f3
  obtain ⟨a4, h4, _, w4⟩ := DataW.trod_int Try.underlying2 f4
  simp at h0 h1 h2 h3 h4
  subst h0; subst h1; subst h2; subst h3; subst h4
  have w1 := wf_u8 w1
  obtain ⟨o, rfl⟩ := Int.eq_ofNat_of_zero_le w1.1
  exact ⟨⟨a0, o, a2, a3, a4⟩, ⟨in64_of w0, by show o < 256; omega, in64_of w2, in64_of w3, in64_of w4⟩, rfl⟩
theorem open_event {v : Value} {x : DataW H × List MemPlace} (hv : Value.okWide Try.prog w .any 0 70 v)
    (h : DataW.trod enc Try.prog w base (fun _ => true) held fuel 70 v.cells.toList = some x) :
    ∃ e : Ev, e.ok ∧ v = .agg #[.int .i64 e.th, .int .u8 (e.op : Int), .int .i64 e.obj, .int .i64 e.a, .int .i64 e.b] := by
  obtain ⟨cs, rfl, _⟩ := okWide_struct Try.underlying70 hv
  obtain ⟨e, he, hc⟩ := open_evcells h
  refine ⟨e, he, ?_⟩
  have : cs.toList = e.cells := hc
  rw [← Array.toArray_toList (xs := cs), this]
  rfl
theorem okWide_quad64 {v : Value} (hv : Value.okWide Try.prog w .any 0 131 v) : ∃ cs, v = .agg cs := by
  simp only [Value.okWide, Try.underlying131] at hv
  obtain ⟨cs, h1, _⟩ := hv
  exact ⟨cs, h1⟩
theorem open_quad64 {v : Value} {x : DataW H × List MemPlace} (hv : Value.okWide Try.prog w .any 0 131 v)
    (h : DataW.trod enc Try.prog w base (fun _ => true) held fuel 131 v.cells.toList = some x) :
    ∃ d0 d1 d2 d3 : Int, (In64 d0 ∧ In64 d1 ∧ In64 d2 ∧ In64 d3) ∧ v = .agg #[.int .i64 d0, .int .i64 d1, .int .i64 d2, .int .i64 d3] := by
  obtain ⟨cs, rfl⟩ := okWide_quad64 hv
  obtain ⟨ys, n', _, _, hcl, hyl, hf⟩ := DataW.trod_array Try.underlying131 h
  have k4 : Try.prog.cellsOf 131 = 4 := by kernel_rfl
  have k1 : Try.prog.cellsOf 2 = 1 := by kernel_rfl
  rw [k4] at hcl
  obtain ⟨c0, c1, c2, c3, hc⟩ := four_ hcl
  have hcs : cs.toList = [c0, c1, c2, c3] := hc
  rw [hc] at hf
  have f0 : DataW.trod enc Try.prog w base (fun _ => true) held n' 2 [c0] = ys[0]? := by have := hf 0 (by omega); simpa [k1] using this
  have f1 : DataW.trod enc Try.prog w base (fun _ => true) held n' 2 [c1] = ys[1]? := by have := hf 1 (by omega); simpa [k1] using this
  have f2 : DataW.trod enc Try.prog w base (fun _ => true) held n' 2 [c2] = ys[2]? := by have := hf 2 (by omega); simpa [k1] using this
  have f3 : DataW.trod enc Try.prog w base (fun _ => true) held n' 2 [c3] = ys[3]? := by have := hf 3 (by omega); simpa [k1] using this
  rw [List.getElem?_eq_getElem (by omega)] at f0 f1 f2 f3
  obtain ⟨a0, h0, _, w0⟩ := DataW.trod_int Try.underlying2 f0
  obtain ⟨a1, h1, _, w1⟩ := DataW.trod_int Try.underlying2 f1
  obtain ⟨a2, h2, _, w2⟩ := DataW.trod_int Try.underlying2 f2
  obtain ⟨a3, h3, _, w3⟩ := DataW.trod_int Try.underlying2 f3
  simp at h0 h1 h2 h3
  subst h0; subst h1; subst h2; subst h3
  refine ⟨a0, a1, a2, a3, ⟨in64_of w0, in64_of w1, in64_of w2, in64_of w3⟩, ?_⟩
  rw [← Array.toArray_toList (xs := cs), hcs]
theorem okWide_quad8 {v : Value} (hv : Value.okWide Try.prog w .any 0 170 v) : ∃ cs, v = .agg cs := by
  simp only [Value.okWide, Try.underlying170] at hv
  obtain ⟨cs, h1, _⟩ := hv
  exact ⟨cs, h1⟩
theorem open_quad8 {v : Value} {x : DataW H × List MemPlace} (hv : Value.okWide Try.prog w .any 0 170 v)
    (h : DataW.trod enc Try.prog w base (fun _ => true) held fuel 170 v.cells.toList = some x) :
    ∃ d0 d1 d2 d3 : Int, ((0 ≤ d0 ∧ d0 < 256) ∧ (0 ≤ d1 ∧ d1 < 256) ∧ (0 ≤ d2 ∧ d2 < 256) ∧ (0 ≤ d3 ∧ d3 < 256)) ∧ v = .agg #[.int .u8 d0, .int .u8 d1, .int .u8 d2, .int .u8 d3] := by
  obtain ⟨cs, rfl⟩ := okWide_quad8 hv
  obtain ⟨ys, n', _, _, hcl, hyl, hf⟩ := DataW.trod_array Try.underlying170 h
  have k4 : Try.prog.cellsOf 170 = 4 := by kernel_rfl
  have k1 : Try.prog.cellsOf 5 = 1 := by kernel_rfl
  rw [k4] at hcl
  obtain ⟨c0, c1, c2, c3, hc⟩ := four_ hcl
  have hcs : cs.toList = [c0, c1, c2, c3] := hc
  rw [hc] at hf
  have f0 : DataW.trod enc Try.prog w base (fun _ => true) held n' 5 [c0] = ys[0]? := by have := hf 0 (by omega); simpa [k1] using this
  have f1 : DataW.trod enc Try.prog w base (fun _ => true) held n' 5 [c1] = ys[1]? := by have := hf 1 (by omega); simpa [k1] using this
  have f2 : DataW.trod enc Try.prog w base (fun _ => true) held n' 5 [c2] = ys[2]? := by have := hf 2 (by omega); simpa [k1] using this
  have f3 : DataW.trod enc Try.prog w base (fun _ => true) held n' 5 [c3] = ys[3]? := by have := hf 3 (by omega); simpa [k1] using this
  rw [List.getElem?_eq_getElem (by omega)] at f0 f1 f2 f3
  obtain ⟨a0, h0, _, w0⟩ := DataW.trod_int Try.underlying5 f0
  obtain ⟨a1, h1, _, w1⟩ := DataW.trod_int Try.underlying5 f1
  obtain ⟨a2, h2, _, w2⟩ := DataW.trod_int Try.underlying5 f2
  obtain ⟨a3, h3, _, w3⟩ := DataW.trod_int Try.underlying5 f3
  simp at h0 h1 h2 h3
  subst h0; subst h1; subst h2; subst h3
  refine ⟨a0, a1, a2, a3, ⟨wf_u8 w0, wf_u8 w1, wf_u8 w2, wf_u8 w3⟩, ?_⟩
  rw [← Array.toArray_toList (xs := cs), hcs]
theorem open_events {v : Value} {x : DataW H × List MemPlace}
    (h : DataW.trod enc Try.prog w base (fun _ => true) held fuel 71 [v] = some x) : ∃ A n c xs, v = .slice A n c ∧ IsEv w A n c xs ∧ (∀ x ∈ xs, x.ok) ∧ c ≤ maxLen := by
  obtain ⟨A, n, c, xs, rfl, hL⟩ := open_list 5 (fun cs (e : Ev) => e.ok ∧ cs = e.cells) Try.underlying71 (by kernel_rfl) (by omega) (fun cs n y hcl ht => open_evcells ht) h
  refine ⟨A, n, c, xs, rfl, ⟨hL.len, hL.cap, hL.none_, ?_⟩, ?_, hL.max⟩
  · rcases hL.src with h0 | ⟨b, o, hA, hc⟩
    · exact .inl h0
    · refine .inr ⟨b, o, hA, fun j x hj f u hu => ?_⟩
      obtain ⟨cs, hcl, hat, _, rfl⟩ := hc j x hj
      exact hat f u hu
  · intro x hx
    obtain ⟨j, hj, ex⟩ := List.getElem_of_mem hx
    obtain ⟨b, o, y, cs, _, hy, _, _, hr, _⟩ := hL.at_ (j := j) (by have := hL.len; omega)
    rw [List.getElem?_eq_getElem hj] at hy
    rw [← ex, Option.some.inj hy]
    exact hr
end
end Go.Proofs.Ytebpdlggkncliaa
