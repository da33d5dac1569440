/-
  A disk that a law has made and goes on with: what each call answers, and what the disk is behind it.
-/
import Derived.Test.YtebpdlggkncliaaKDkCrashB
import Derived.Test.YtebpdlggkncliaaK2
import Derived.ProofKit
set_option linter.unusedVariables false
set_option linter.unusedSimpArgs false
namespace Go.Proofs.Ytebpdlggkncliaa
open Go.RowKit Go.Maps

/-- a disk of the law's own (w0: the world when the law began) -/
def Sess (w0 w : World) (a : Nat) (s : St) : Prop := ∃ F, Dk w F a s ∧ (∀ b, F b → w0.heap.size ≤ b) ∧ Below w0.heap.size w0 w
theorem Sess.bel {w0 w : World} {a : Nat} {s : St} (h : Sess w0 w a s) : Below w0.heap.size w0 w := by obtain ⟨F, _, _, hb⟩ := h; exact hb
theorem Sess.wf {w0 w : World} {a : Nat} {s : St} (h : Sess w0 w a s) : s.wf := by obtain ⟨F, hd, _, _⟩ := h; exact hd.1
theorem Sess.below {w0 w w' : World} {a : Nat} {s : St} (h : Sess w0 w a s) (hb : Below w.heap.size w w') : Sess w0 w' a s := by
  obtain ⟨F, hd, hf, h0⟩ := h
  exact ⟨F, hd.below hb, hf, bst h0 hb⟩
theorem Sess.alloc {w0 w : World} {a : Nat} {s : St} (h : Sess w0 w a s) (o : Obj) : Sess w0 (w.alloc o) a s := h.below ((Below.refl _ _).alloc (Nat.le_refl _) o)
theorem Sess.drew {w0 w : World} {a : Nat} {s : St} (h : Sess w0 w a s) : Sess w0 w.drew a s := h.below (Below.refl _ _).drew
theorem Sess.drewN {w0 w : World} {a : Nat} {s : St} (h : Sess w0 w a s) (n : Nat) : Sess w0 (w.drewN n) a s := h.below (below_drewN' (Below.refl _ _) n)
theorem sess_turned {w0 w w' : World} {F : Nat → Prop} {a : Nat} {s : St} (hf : ∀ b, F b → w0.heap.size ≤ b) (h0 : Below w0.heap.size w0 w) (ht : Turned w F a w' s) : Sess w0 w' a s := by
  obtain ⟨F', hd, ha, hF⟩ := ht
  refine ⟨F', hd, fun b hb => ?_, ?_⟩
  · rcases hF b hb with e | e
    · exact hf b e
    · exact Nat.le_trans h0.size e
  · have := (Away.of_below h0).trans ha fun b e => .inl (hf b e)
    exact this.below (Nat.le_refl _) fun b e => e

section
variable {w0 w : World} {a : Nat} {s : St}
theorem s_new (n : Nat) (h : n ≤ 16777216) (h0 : Below w0.heap.size w0 w) : Calls Try.prog 8 #[.int .i64 (n : Int)] w fun e w' =>
    ∃ a, e = .returned (.tuple #[.pointer (some ⟨a, 0, none⟩), .int .i64 0]) ∧ Sess w0 w' a (St.new n) := by
  refine (new_any n w h).mono ?_
  rintro e w' ⟨a, F, rfl, hd, hf, hb⟩
  exact ⟨a, rfl, F, hd, fun b e => Nat.le_trans h0.size (hf b e), bst h0 hb⟩
theorem s_append (h : Sess w0 w a s) (nm : ByteArray) (hnm : nm.size ≤ maxLen) {B : Option Addr} {n c : Nat} {l : List UInt8} (hB : IsB w B n c l) (hn : n ≤ maxLen) {s' : St} {er : Nat} (he : s.append nm.data.toList l = (s', er)) :
    Calls Try.prog 9 #[.pointer (some ⟨a, 0, none⟩), .string nm, .slice B n c] w fun e w' => e = .returned (.int .i64 (er : Int)) ∧ Sess w0 w' a s' := by
  obtain ⟨F, hd, hf, h0⟩ := h
  refine (append_disk hd nm hnm hB hn).mono ?_
  rw [he]
  rintro e w' ⟨rfl, ht⟩
  exact ⟨rfl, sess_turned hf h0 ht⟩
theorem s_sync (h : Sess w0 w a s) (nm : ByteArray) (hnm : nm.size ≤ maxLen) {s' : St} {er : Nat} (he : s.sync nm.data.toList = (s', er)) :
    Calls Try.prog 14 #[.pointer (some ⟨a, 0, none⟩), .string nm] w fun e w' => e = .returned (.int .i64 (er : Int)) ∧ Sess w0 w' a s' := by
  obtain ⟨F, hd, hf, h0⟩ := h
  refine (sync_any hd nm hnm).mono ?_
  rw [he]
  rintro e w' ⟨rfl, ht⟩
  exact ⟨rfl, sess_turned hf h0 ht⟩
theorem s_remove (h : Sess w0 w a s) (nm : ByteArray) (hnm : nm.size ≤ maxLen) {s' : St} {er : Nat} (he : s.remove nm.data.toList = (s', er)) :
    Calls Try.prog 15 #[.pointer (some ⟨a, 0, none⟩), .string nm] w fun e w' => e = .returned (.int .i64 (er : Int)) ∧ Sess w0 w' a s' := by
  obtain ⟨F, hd, hf, h0⟩ := h
  refine (remove_any hd nm hnm).mono ?_
  rw [he]
  rintro e w' ⟨rfl, ht⟩
  exact ⟨rfl, sess_turned hf h0 ht⟩
theorem s_rename (h : Sess w0 w a s) (nm : ByteArray) (hnm : nm.size ≤ maxLen) (tm : ByteArray) (htm : tm.size ≤ maxLen) {s' : St} {er : Nat} (he : s.rename nm.data.toList tm.data.toList = (s', er)) :
    Calls Try.prog 16 #[.pointer (some ⟨a, 0, none⟩), .string nm, .string tm] w fun e w' => e = .returned (.int .i64 (er : Int)) ∧ Sess w0 w' a s' := by
  obtain ⟨F, hd, hf, h0⟩ := h
  refine (rename_any hd nm hnm tm htm).mono ?_
  rw [he]
  rintro e w' ⟨rfl, ht⟩
  exact ⟨rfl, sess_turned hf h0 ht⟩
theorem s_cut (h : Sess w0 w a s) (nm : ByteArray) (hnm : nm.size ≤ maxLen) (n : Int) (hn0 : -9223372036854775808 ≤ n) (hn1 : n ≤ 9223372036854775807) {s' : St} {er : Nat} (he : s.cut nm.data.toList n = (s', er)) :
    Calls Try.prog 12 #[.pointer (some ⟨a, 0, none⟩), .string nm, .int .i64 n] w fun e w' => e = .returned (.int .i64 (er : Int)) ∧ Sess w0 w' a s' := by
  obtain ⟨F, hd, hf, h0⟩ := h
  refine (cut_any hd nm hnm n hn0 hn1).mono ?_
  rw [he]
  rintro e w' ⟨rfl, ht⟩
  exact ⟨rfl, sess_turned hf h0 ht⟩
theorem s_arm (h : Sess w0 w a s) (n : Int) (hn0 : -9223372036854775808 ≤ n) (hn1 : n ≤ 9223372036854775807) :
    Calls Try.prog 19 #[.pointer (some ⟨a, 0, none⟩), .int .i64 n] w fun e w' => e = .returned (.tuple #[]) ∧ Sess w0 w' a (s.arm' n) := by
  obtain ⟨F, hd, hf, h0⟩ := h
  refine (arm_any hd n hn0 hn1).mono ?_
  rintro e w' ⟨rfl, ht⟩
  exact ⟨rfl, sess_turned hf h0 ht⟩
theorem s_size (h : Sess w0 w a s) (nm : ByteArray) (hnm : nm.size ≤ maxLen) {n : Nat} (he : ((aget nm.data.toList s.fs).getD ([], 0)).1.length = n) :
    Calls Try.prog 37 #[.pointer (some ⟨a, 0, none⟩), .string nm] w fun e w' => e = .returned (.int .i64 (n : Int)) ∧ w = w' := by
  obtain ⟨F, hd, hf, h0⟩ := h
  rw [← he]
  exact size_any hd nm hnm
theorem s_synced (h : Sess w0 w a s) (nm : ByteArray) (hnm : nm.size ≤ maxLen) {n : Nat} (he : ((aget nm.data.toList s.fs).getD ([], 0)).2 = n) :
    Calls Try.prog 13 #[.pointer (some ⟨a, 0, none⟩), .string nm] w fun e w' => e = .returned (.int .i64 (n : Int)) ∧ w = w' := by
  obtain ⟨F, hd, hf, h0⟩ := h
  rw [← he]
  exact synced_any hd nm hnm
theorem s_used (h : Sess w0 w a s) {n : Nat} (he : s.used = n) : Calls Try.prog 17 #[.pointer (some ⟨a, 0, none⟩)] w fun e w' => e = .returned (.int .i64 (n : Int)) ∧ w = w' := by
  obtain ⟨F, hd, hf, h0⟩ := h
  rw [← he]
  exact used_any hd
theorem s_down (h : Sess w0 w a s) {b : Bool} (he : s.down = b) : Calls Try.prog 22 #[.pointer (some ⟨a, 0, none⟩)] w fun e w' => e = .returned (.bool b) ∧ w = w' := by
  obtain ⟨F, hd, hf, h0⟩ := h
  rw [← he]
  exact down_any hd
theorem s_read (h : Sess w0 w a s) (nm : ByteArray) (hnm : nm.size ≤ maxLen) {l : List UInt8} {er : Nat} (he : s.read nm.data.toList = (l, er)) :
    Calls Try.prog 10 #[.pointer (some ⟨a, 0, none⟩), .string nm] w fun e w' =>
      ∃ A n c, e = .returned (.tuple #[.slice A n c, .int .i64 (er : Int)]) ∧ IsB w' A n c l ∧ (∀ ad, A = some ad → w.heap.size ≤ ad.block) ∧ Sess w0 w' a s := by
  have hS := h
  obtain ⟨F, hd, hf, h0⟩ := h
  refine (read_any hd nm hnm).mono ?_
  rw [he]
  rintro e w' ⟨v, rfl, ho, hb⟩
  obtain ⟨A, c, rfl, hI, _⟩ := own_is ho
  refine ⟨A, _, c, rfl, hI, fun ad hA => ?_, hS.below hb⟩
  subst hA
  exact (World.ownsRow.lt ho ad.block rfl).1
theorem s_list (h : Sess w0 w a s) : Calls Try.prog 21 #[.pointer (some ⟨a, 0, none⟩)] w fun e w' =>
    ∃ A c, e = .returned (.slice A s.fs.length c) ∧ Names w' w.heap.size (.slice A s.fs.length c) (s.fs.map (·.1)) ∧ Sess w0 w' a s := by
  have hS := h
  obtain ⟨F, hd, hf, h0⟩ := h
  refine (list_any hd).mono ?_
  rintro e w' ⟨v, rfl, hn, hb⟩
  obtain ⟨A, c, rfl, _⟩ := hn.at_
  rw [List.length_map] at hn ⊢
  exact ⟨A, c, rfl, hn, hS.below hb⟩
/-- a crash whose numbers lie in what the law has just made -/
theorem s_crash (h : Sess w0 w a s) {w' : World} (hb : Below w.heap.size w w') {A : Option Addr} {n c : Nat} {ks : List Int} (hI : IsI w' A n c ks) (hn : n ≤ maxLen) (hA : ∀ ad, A = some ad → ks ≠ [] → w.heap.size ≤ ad.block ∨ ad.block < w0.heap.size) :
    Calls Try.prog 23 #[.pointer (some ⟨a, 0, none⟩), .slice A n c] w' fun e w2 => e = .returned (.tuple #[]) ∧ Sess w0 w2 a (s.crash ks) := by
  obtain ⟨F, hd, hf, h0⟩ := h
  refine (crash_any (hd.below hb) hI hn fun ad e hk hF => ?_).mono ?_
  · have h1 := hd.2.1 _ hF
    have h2 := hf _ hF
    rcases hA ad e hk with h3 | h3 <;> omega
  · rintro e w2 ⟨rfl, ht⟩
    exact ⟨rfl, sess_turned hf (bst h0 hb) ht⟩
end

theorem ints_new (w : World) (zs : List Int) (t : TypeId) (hr : ∀ z ∈ zs, -9223372036854775808 ≤ z ∧ z ≤ 9223372036854775807) : IsI (w.alloc (.cells (zs.map (Value.int .i64)).toArray t)) (some ⟨w.heap.size, 0, none⟩) zs.length zs.length zs := by
  refine ⟨rfl, Nat.le_refl _, hr, .inr ⟨_, _, rfl, fun j z hj => ?_⟩⟩
  rw [cell_of_row _ _ _ _ _ _ (heap_alloc_new w _)]
  simp [hj]
theorem ints_nil (w : World) : IsI w none 0 0 [] := ⟨rfl, Nat.le_refl _, (fun _ h => by cases h), .inl rfl⟩
theorem bytes_new (w : World) (l : List UInt8) (t : TypeId) : IsB (w.alloc (.cells (Go.Lib.byteCells l).toArray t)) (some ⟨w.heap.size, 0, none⟩) l.length l.length l := by
  refine ⟨rfl, Nat.le_refl _, (fun h => by cases h), .inr ⟨_, _, rfl, fun j z hj => ?_⟩⟩
  rw [cell_of_row _ _ _ _ _ _ (heap_alloc_new w _)]
  simp [Go.Lib.byteCells, hj]
end Go.Proofs.Ytebpdlggkncliaa

/-
  The disk's laws' own calls: an Op in memory, what is looked at, what a call does.
-/
set_option linter.unusedVariables false
set_option linter.unusedSimpArgs false
namespace Go.Proofs.Ytebpdlggkncliaa
open Go.RowKit Go.Maps

structure OpV where
  kind : Int
  n : Int
  name : ByteArray
  to : ByteArray
  b : List UInt8
  keeps : List Int
/-- a call with where its parts lie -/
structure OpC where
  o : OpV
  B : Option Addr
  nB : Nat
  cB : Nat
  K : Option Addr
  nK : Nat
  cK : Nat
def OpC.cells (x : OpC) : List Value := [.int .i64 x.o.kind, .int .i64 x.o.n, .string x.o.name, .string x.o.to, .slice x.B x.nB x.cB, .slice x.K x.nK x.cK]
structure OpC.ok (w : World) (x : OpC) : Prop where
  b : IsB w x.B x.nB x.cB x.o.b
  k : IsI w x.K x.nK x.cK x.o.keeps
  cb : x.nB ≤ maxLen
  ck : x.nK ≤ maxLen
  name : x.o.name.size ≤ maxLen
  to : x.o.to.size ≤ maxLen
  n0 : -9223372036854775808 ≤ x.o.n
  n1 : x.o.n ≤ 9223372036854775807
theorem OpC.ok.below {w w' : World} {x : OpC} (h : x.ok w) (hb : Below w.heap.size w w') : x.ok w' :=
  ⟨h.b.below hb, ⟨h.k.len, h.k.cap, h.k.rng, by
    rcases h.k.src with h0 | ⟨b, o, hA, hc⟩
    · exact .inl h0
    · exact .inr ⟨b, o, hA, fun j z hj => cell_below hb _ _ (hc j z hj)⟩⟩, h.cb, h.ck, h.name, h.to, h.n0, h.n1⟩
/-- the numbers of a crash lie in what came in -/
theorem OpC.ok.old {w : World} {x : OpC} (h : x.ok w) : ∀ ad, x.K = some ad → x.o.keeps ≠ [] → ad.block < w.heap.size := by
  intro ad hA hne
  rcases h.k.src with h0 | ⟨b, o, hA', hc⟩
  · exact absurd h0 hne
  · rw [hA] at hA'
    cases hA'
    cases hk : x.o.keeps with
    | nil => exact absurd hk hne
    | cons z r =>
      have := hc 0 z (by rw [hk]; rfl)
      rcases Nat.lt_or_ge b w.heap.size with h1 | h1
      · exact h1
      · exfalso
        have hn : w.heap[b]? = none := Array.getElem?_eq_none h1
        simp [World.cell?, hn] at this

def OpV.small (o : OpV) : Bool := o.b.length ≤ 200 && o.name.size ≤ 100 && o.to.size ≤ 100 && o.keeps.length ≤ 300
def St.does (s : St) (o : OpV) : St × Nat :=
  if o.kind = 1 ∨ o.kind = 2 ∨ o.kind = 3 then s.append o.name.data.toList o.b
  else if o.kind = 4 ∨ o.kind = 5 then s.sync o.name.data.toList
  else if o.kind = 6 then s.rename o.name.data.toList o.to.data.toList
  else if o.kind = 7 then s.remove o.name.data.toList
  else if o.kind = 8 then s.cut o.name.data.toList o.n
  else if o.kind = 9 then (s.arm' o.n, 0)
  else if o.kind = 10 then (s.crash o.keeps, 0)
  else (s, 0)

theorem turned_below {w w1 w' : World} {F : Nat → Prop} {a : Nat} {s : St} (hb : Below w.heap.size w w1) (h : Turned w1 F a w' s) : Turned w F a w' s := by
  obtain ⟨F', hd, ha, hF⟩ := h
  refine ⟨F', hd, (Away.of_new hb F).trans ha fun b e => .inl e, fun b hb' => ?_⟩
  rcases hF b hb' with e | e
  · exact .inl e
  · exact .inr (Nat.le_trans hb.size e)
theorem turned_same {w w' : World} {F : Nat → Prop} {a : Nat} {s : St} (h : Dk w F a s) (hb : Below w.heap.size w w') : Turned w F a w' s :=
  ⟨F, h.below hb, Away.of_new hb F, fun b e => .inl e⟩

theorem kinds_of (k : Int) : k = 1 ∨ k = 2 ∨ k = 3 ∨ k = 4 ∨ k = 5 ∨ k = 6 ∨ k = 7 ∨ k = 8 ∨ k = 9 ∨ k = 10 ∨ (k ≠ 1 ∧ k ≠ 2 ∧ k ≠ 3 ∧ k ≠ 4 ∧ k ≠ 5 ∧ k ≠ 6 ∧ k ≠ 7 ∧ k ≠ 8 ∧ k ≠ 9 ∧ k ≠ 10) := by omega
end Go.Proofs.Ytebpdlggkncliaa

/-
  What the disk's laws are given: slices of calls, of numbers, as the row's reading gives them.
-/
set_option linter.unusedVariables false
set_option linter.unusedSimpArgs false
namespace Go.Proofs.Ytebpdlggkncliaa
open Go.ChangeShapes Go.WideShapes Go.ChangeAt Go.RowKit

theorem open_nums {H : Type} {enc : TypeId × Value → H} {w : World} {base : Nat} {held : Bool} {fuel : Nat} {v : Value} {x : DataW H × List MemPlace}
    (h : DataW.trod enc Try.prog w base (fun _ => true) held fuel 43 [v] = some x) : ∃ A n c zs, v = .slice A n c ∧ IsI w A n c zs ∧ c ≤ maxLen := by
  obtain ⟨A, n, c, xs, rfl, hL⟩ := open_list 1 (fun cs (z : Int) => cs = [.int .i64 z] ∧ -9223372036854775808 ≤ z ∧ z ≤ 9223372036854775807) Try.underlying43 (by kernel_rfl) (by omega) (fun cs n y hcl ht => by
    obtain ⟨a, h0, _, w0⟩ := DataW.trod_int Try.underlying3 ht
    have w0 := wf_i64 w0
    exact ⟨a, h0, by omega, by omega⟩) h
  refine ⟨A, n, c, xs, rfl, ⟨hL.len, hL.cap, ?_, ?_⟩, hL.max⟩
  · intro z hz
    obtain ⟨j, hj, ex⟩ := List.getElem_of_mem hz
    obtain ⟨b, o, y, cs, _, hy, _, _, _, hr⟩ := hL.at_ (j := j) (by have := hL.len; omega)
    rw [List.getElem?_eq_getElem hj] at hy
    rw [← ex, Option.some.inj hy]
    exact hr
  · rcases hL.src with h0 | ⟨b, o, hA, hc⟩
    · exact .inl h0
    · refine .inr ⟨b, o, hA, fun j x hj => ?_⟩
      obtain ⟨cs, hcl, hat, rfl, _⟩ := hc j x hj
      have := hat 0 _ rfl
      rwa [Nat.mul_one, Nat.add_zero] at this
set_option maxRecDepth 100000 in
theorem open_ops {H : Type} {enc : TypeId × Value → H} {w : World} {base : Nat} {held : Bool} {fuel : Nat} {v : Value} {x : DataW H × List MemPlace}
    (h : DataW.trod enc Try.prog w base (fun _ => true) held fuel 44 [v] = some x) : ∃ A n c xs, v = .slice A n c ∧ IsL 6 (fun cs (x : OpC) => cs = x.cells ∧ x.ok w) w A n c xs := by
  refine open_list 6 (fun cs (x : OpC) => cs = x.cells ∧ x.ok w) Try.underlying44 (by kernel_rfl) (by omega) (fun cs n y hcl ht => ?_) h
  obtain ⟨ys, n', _, _, _, _, hf⟩ := DataW.trod_struct Try.underlying51 ht
  match cs, hcl with
  | [c0, c1, c2, c3, c4, c5], _ =>
    have ki : Try.prog.cellsOf 3 = 1 := by kernel_rfl
    have kt : Try.prog.cellsOf 9 = 1 := by kernel_rfl
    have kb : Try.prog.cellsOf 26 = 1 := by kernel_rfl
    have kn : Try.prog.cellsOf 43 = 1 := by kernel_rfl
    have k8 : Try.prog.cellsOf 5 = 1 := by kernel_rfl
    have f0 : DataW.trod enc Try.prog w base (fun _ => true) held n' 3 [c0] = ys[0]? := by have := hf 0 _ rfl; simpa [ki] using this
    have f1 : DataW.trod enc Try.prog w base (fun _ => true) held n' 3 [c1] = ys[1]? := by have := hf 1 _ rfl; simpa [ki] using this
    have f2 : DataW.trod enc Try.prog w base (fun _ => true) held n' 9 [c2] = ys[2]? := by have := hf 2 _ rfl; simpa [ki, kt] using this
    have f3 : DataW.trod enc Try.prog w base (fun _ => true) held n' 9 [c3] = ys[3]? := by have := hf 3 _ rfl; simpa [ki, kt] using this
    have f4 : DataW.trod enc Try.prog w base (fun _ => true) held n' 26 [c4] = ys[4]? := by have := hf 4 _ rfl; simpa [ki, kt, kb] using this
    have f5 : DataW.trod enc Try.prog w base (fun _ => true) held n' 43 [c5] = ys[5]? := by have := hf 5 _ rfl; simpa [ki, kt, kb, kn] using this
    have hyl : ys.length = 6 := by assumption
    rw [List.getElem?_eq_getElem (by omega)] at f0 f1 f2 f3 f4 f5
    obtain ⟨a0, h0, _, w0⟩ := DataW.trod_int Try.underlying3 f0
    obtain ⟨a1, h1, _, w1⟩ := DataW.trod_int Try.underlying3 f1
    obtain ⟨s2, h2, _, z2⟩ := DataW.trod_string Try.underlying9 f2
    obtain ⟨s3, h3, _, z3⟩ := DataW.trod_string Try.underlying9 f3
    obtain ⟨B, m, d, l, h4, hB, hm4⟩ := open_bytes Try.underlying26 Try.underlying5 k8 f4
    obtain ⟨K, mk, dk, zs, h5, hK, hm5⟩ := open_nums f5
    simp at h0 h1 h2 h3
    subst h0; subst h1; subst h2; subst h3; subst h4; subst h5
    have w1 := wf_i64 w1
    exact ⟨⟨⟨a0, a1, s2, s3, l, zs⟩, B, m, d, K, mk, dk⟩, rfl, hB, hK, Nat.le_trans hB.cap hm4, Nat.le_trans hK.cap hm5, z2, z3, by show _ ≤ a1; omega, by show a1 ≤ _; omega⟩
end Go.Proofs.Ytebpdlggkncliaa
