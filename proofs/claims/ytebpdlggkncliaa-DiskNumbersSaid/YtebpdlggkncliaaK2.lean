/-
  awake: the chapter's examples come out as written.
-/
import Derived.Test.YtebpdlggkncliaaK1
import Derived.Lib.SlBytesConst
import Derived.OpenShut
import Derived.Deep.Slices
import Derived.ChangeArms
set_option linter.unusedSimpArgs false
namespace Go.Proofs.Ytebpdlggkncliaa
open Go.RowKit
open Go.Lib (byteCells byteCells_length byteCells_append uvarint uvarint_small uvarint_big)

/-- bytes that were just laid in a block of their own -/
theorem new_is (w : World) (t : TypeId) (fr : Nat × Nat) (l : List UInt8) (n : Nat) (cs : Array Value) (h : cs = (byteCells l).toArray) (hn : l.length = n) :
    IsB (w.alloc (.cells cs t fr)) (some ⟨w.heap.size, 0, none⟩) n n l := by
  refine ⟨hn, Nat.le_refl _, (fun h => by cases h), .inr ⟨w.heap.size, 0, rfl, fun j u hj => ?_⟩⟩
  rw [cell_of_row (w.alloc (.cells cs t fr)) w.heap.size (0 + j) cs t fr (heap_alloc_new w _), h, Nat.zero_add, List.getElem?_toArray, byteCells, List.getElem?_map, hj]
  rfl
theorem bstep {w w1 w2 : World} {o : Obj} (h : Below w.heap.size w w1) (h2 : Below (w1.alloc o).heap.size (w1.alloc o) w2) : Below w.heap.size w w2 :=
  (h.alloc h.size o).trans (h2.mono (by have := h.size; simp; omega))
theorem bstep0 {w w1 w2 : World} (h : Below w.heap.size w w1) (h2 : Below w1.heap.size w1 w2) : Below w.heap.size w w2 := h.trans (h2.mono h.size)

theorem uv127 : uvarint 127 = [127] := uvarint_small (by decide)
theorem uv0 : uvarint 0 = [0] := uvarint_small (by decide)
theorem uv128 : uvarint 128 = [128, 1] := by rw [uvarint_big (by decide), uvarint_small (by decide)]; rfl
theorem uv300 : uvarint 300 = [172, 2] := by rw [uvarint_big (by decide), uvarint_small (by decide)]; rfl
theorem uv2 : uvarint 2 = [2] := uvarint_small (by decide)

theorem crc_lit (l : List UInt8) (m q : Nat) (x : Int) (cs : Array Value) (w : World) (t : TypeId) (fr : Nat × Nat) (hx : x = (q : Int)) (hq : crc l = q) (hcs : cs = (byteCells l).toArray) (hm : l.length = m) (hb : m ≤ 100) :
    Calls Try.prog 131 #[.slice (some ⟨w.heap.size, 0, none⟩) m m] (w.alloc (.cells cs t fr)).drew fun e w' => e = .returned (.int .u32 x) ∧ Below (w.alloc (.cells cs t fr)).heap.size (w.alloc (.cells cs t fr)) w' := by
  subst hx
  refine (crc_any _ m m l _ (new_is w t fr l m cs hcs hm).drew (by omega)).mono ?_
  rintro e w' ⟨rfl, hb⟩
  exact ⟨by rw [hq], (Below.refl _ _).drew.trans hb⟩
theorem seal_nil (w : World) : Calls Try.prog 96 #[.slice none 0 0] w fun e w' =>
    ∃ A m c, e = .returned (.slice A m c) ∧ IsB w' A m c [0, 0, 0, 0] ∧ Below w.heap.size w w' :=
  (seal_any none 0 0 [] w (IsB.nil w) (by decide)).mono fun e w' h => by
    obtain ⟨v, he, ho, hb⟩ := h
    obtain ⟨A, m, c, rfl, hi⟩ := own_slice ho
    exact ⟨A, m, c, he, hi, hb⟩

end Go.Proofs.Ytebpdlggkncliaa

/-
  What a slice of bytes that came in holds, as the row's reading gives it.
-/
namespace Go.Proofs.Ytebpdlggkncliaa
open Go.RowKit

theorem wf_u8 {n : Int} (h : (Lit.int .u8 n).wf = true) : 0 ≤ n ∧ n < 256 := by
  have : 0 ≤ n ∧ n ≤ 255 := by simpa [Lit.wf, IntKind.min, IntKind.max, IntKind.signed, IntKind.bits] using h
  omega
theorem wf_u64 {n : Int} (h : (Lit.int .u64 n).wf = true) : 0 ≤ n ∧ n < 18446744073709551616 := by
  have : 0 ≤ n ∧ n ≤ 18446744073709551615 := by simpa [Lit.wf, IntKind.min, IntKind.max, IntKind.signed, IntKind.bits] using h
  omega
theorem wf_i64 {n : Int} (h : (Lit.int .i64 n).wf = true) : -9223372036854775808 ≤ n ∧ n ≤ 9223372036854775807 := by
  simpa [Lit.wf, IntKind.min, IntKind.max, IntKind.signed, IntKind.bits] using h

theorem isB_of_row {w : World} {x : Addr} {len cap : Nat} {zs : List Int} (hl : len ≤ cap) (hz : zs.length = cap)
    (hcell : ∀ i, i < zs.length → w.cell? (x.add i) = some (.int .u8 (zs.getD i 0))) (hwz : ∀ n ∈ zs, (Lit.int .u8 n).wf = true) :
    ∃ l, IsB w (some x) len cap l := by
  refine ⟨(zs.take len).map fun z => z.toNat.toUInt8, ?_, hl, (fun h => by cases h), ?_⟩
  · rw [List.length_map, List.length_take]; omega
  · rcases Nat.eq_zero_or_pos len with h0 | h0
    · subst h0; exact .inl (by simp)
    · obtain ⟨b, o, spot⟩ := x
      have hc := hcell 0 (by omega)
      have hspot : spot = none := by simpa [Addr.add] using World.cell?_spot hc
      subst hspot
      refine .inr ⟨b, o, rfl, fun j u hj => ?_⟩
      have hjl : j < ((zs.take len).map fun z => z.toNat.toUInt8).length := (List.getElem?_eq_some_iff.1 hj).1
      rw [List.length_map, List.length_take] at hjl
      have hjz : j < zs.length := by omega
      rw [List.getElem?_map, List.getElem?_take_of_lt (by omega), List.getElem?_eq_getElem hjz] at hj
      obtain rfl := Option.some.inj hj
      have hw := wf_u8 (hwz _ (List.getElem_mem hjz))
      have hc' := hcell j hjz
      rw [Addr.add_lit, List.getD_eq_getElem?_getD, List.getElem?_eq_getElem hjz] at hc'
      rw [hc', byte_toNat (by omega)]
      simp only [Option.getD_some]
      rw [Int.toNat_of_nonneg hw.1]
end Go.Proofs.Ytebpdlggkncliaa

/-
  What arguments with depth hold, as the row's reading gives it: slices of whatever elements, read as lists.
-/
set_option linter.unusedVariables false
namespace Go.Proofs.Ytebpdlggkncliaa
open Go.RowKit Go.Deep Go.ChangeShapes Go.WideShapes

/-- a slice whose elements, of k cells each, read as these by Rel -/
structure IsL {α : Type} (k : Nat) (Rel : List Value → α → Prop) (w : World) (A : Option Addr) (n c : Nat) (xs : List α) : Prop where
  len : xs.length = n
  cap : n ≤ c
  max : c ≤ maxLen
  none_ : A = none → c = 0
  src : xs = [] ∨ ∃ b o, A = some ⟨b, o, none⟩ ∧ ∀ j x, xs[j]? = some x → ∃ cs : List Value, cs.length = k ∧ (∀ i u, cs[i]? = some u → w.cell? ⟨b, o + j * k + i, none⟩ = some u) ∧ Rel cs x

theorem list_of {α : Type} {P : Nat → α → Prop} : ∀ n : Nat, (∀ i, i < n → ∃ x, P i x) → ∃ xs : List α, xs.length = n ∧ ∀ i x, xs[i]? = some x → P i x
  | 0, _ => ⟨[], rfl, fun i x h => by simp at h⟩
  | n + 1, h => by
    obtain ⟨xs, hl, hx⟩ := list_of n fun i hi => h i (by omega)
    obtain ⟨y, hy⟩ := h n (by omega)
    refine ⟨xs ++ [y], by simp [hl], fun i x hi => ?_⟩
    rcases Nat.lt_or_ge i n with hin | hin
    · rw [List.getElem?_append_left (by omega)] at hi
      exact hx i x hi
    · rw [List.getElem?_append_right (by omega)] at hi
      have : i - xs.length = 0 := by
        rcases Nat.eq_zero_or_pos (i - xs.length) with h0 | h0
        · exact h0
        · rw [List.getElem?_eq_none (by simp; omega)] at hi; cases hi
      rw [this] at hi
      simp at hi
      subst hi
      have : i = n := by omega
      subst this
      exact hy

section
variable {H : Type} {enc : TypeId × Value → H} {P : Program} {w : World} {base : Nat} {held : Bool}
theorem open_list {α : Type} (k : Nat) (Rel : List Value → α → Prop) {t e : TypeId} {fuel : Nat} {v : Value} {x : DataW H × List MemPlace} (ht : P.underlying t = some (.slice e)) (hk : P.cellsOf e = k) (hk0 : 0 < k)
    (hel : ∀ (cs : List Value) (n : Nat) (y : DataW H × List MemPlace), cs.length = k → DataW.trod enc P w base (fun _ => true) held n e cs = some y → ∃ a, Rel cs a)
    (h : DataW.trod enc P w base (fun _ => true) held fuel t [v] = some x) :
    ∃ A n c xs, v = .slice A n c ∧ IsL k Rel w A n c xs := by
  subst hk
  rcases open_slice ht h with ⟨hcs, _⟩ | ⟨a, len, cap, m, n, D, Pl, hcs, hb, hl, hm, hmm, hx, hi⟩
  · simp at hcs
    exact ⟨none, 0, 0, [], hcs, rfl, Nat.le_refl _, Nat.zero_le _, fun _ => rfl, .inl rfl⟩
  · simp at hcs
    simp at hmm
    subst hmm
    have hall : ∀ i, i < len → ∃ a', (∃ cs : List Value, cs.length = P.cellsOf e ∧ (∀ j u, cs[j]? = some u → w.cell? ((a.add (i * P.cellsOf e)).add j) = some u) ∧ Rel cs a') := fun i hil => by
      obtain ⟨cs', hc, ht'⟩ := hi i (by omega)
      obtain ⟨_, hcl, hat⟩ := World.cells?_some hc
      obtain ⟨a', ha'⟩ := hel cs' n _ hcl ht'
      refine ⟨a', cs', hcl, fun j u hu => ?_, ha'⟩
      have hj : j < cs'.length := (List.getElem?_eq_some_iff.1 hu).1
      rw [hat j (by omega), hu]
    obtain ⟨xs, hxl, hxs⟩ := list_of len hall
    refine ⟨some a, len, m, xs, hcs, hxl, hl, hm, (fun e => by cases e), ?_⟩
    rcases Nat.eq_zero_or_pos len with h0 | h0
    · subst h0; exact .inl (List.eq_nil_of_length_eq_zero hxl)
    · have hsp : a.spot = none := by
        obtain ⟨cs', hcl, hat, _⟩ := hxs 0 xs[0] (List.getElem?_eq_getElem (by omega))
        have := hat 0 cs'[0] (List.getElem?_eq_getElem (by omega))
        simpa [Addr.add] using World.cell?_spot this
      obtain ⟨b, o, spot⟩ := a
      simp at hsp
      subst hsp
      refine .inr ⟨b, o, rfl, fun j x hj => ?_⟩
      obtain ⟨cs, hcl, hat, hr⟩ := hxs j x hj
      refine ⟨cs, hcl, fun i u hu => ?_, hr⟩
      have := hat i u hu
      rwa [Addr.add_lit, Addr.add_lit] at this

theorem open_bytes {t e : TypeId} {fuel : Nat} {v : Value} {x : DataW H × List MemPlace} (ht : P.underlying t = some (.slice e)) (he : P.underlying e = some (.int .u8)) (hc : P.cellsOf e = 1)
    (h : DataW.trod enc P w base (fun _ => true) held fuel t [v] = some x) : ∃ A n c l, v = .slice A n c ∧ IsB w A n c l ∧ c ≤ maxLen := by
  rcases open_ints ht he hc h with ⟨hcs, _⟩ | ⟨a, len, cap, zs, hcs, _, hl, hm, hz, _, hcell, hwz⟩
  · simp at hcs
    exact ⟨none, 0, 0, [], hcs, IsB.nil w, Nat.zero_le _⟩
  · simp at hcs
    obtain ⟨l, hB⟩ := isB_of_row hl (by simpa using hz) hcell hwz
    exact ⟨some a, len, cap, l, hcs, hB, hm⟩
end

theorem IsL.below {α : Type} {k : Nat} {Rel Rel' : List Value → α → Prop} {w w' : World} {A : Option Addr} {n c : Nat} {xs : List α} (h : IsL k Rel w A n c xs) (hb : Below w.heap.size w w') (hr : ∀ cs x, Rel cs x → Rel' cs x) : IsL k Rel' w' A n c xs := by
  refine ⟨h.len, h.cap, h.max, h.none_, ?_⟩
  rcases h.src with h0 | ⟨b, o, hA, hc⟩
  · exact .inl h0
  · refine .inr ⟨b, o, hA, fun j x hj => ?_⟩
    obtain ⟨cs, hl, hat, hx⟩ := hc j x hj
    exact ⟨cs, hl, fun i u hu => cell_below hb _ _ (hat i u hu), hr _ _ hx⟩
/-- the one element's cells -/
theorem IsL.at_ {α : Type} {k : Nat} {Rel : List Value → α → Prop} {w : World} {A : Option Addr} {n c : Nat} {xs : List α} (h : IsL k Rel w A n c xs) {j : Nat} (hj : j < n) :
    ∃ b o x cs, A = some ⟨b, o, none⟩ ∧ xs[j]? = some x ∧ cs.length = k ∧ (∀ i u, cs[i]? = some u → w.cell? ⟨b, o + j * k + i, none⟩ = some u) ∧ Rel cs x := by
  have hl := h.len
  have hx : xs[j]? = some (xs[j]'(by omega)) := List.getElem?_eq_getElem (by omega)
  rcases h.src with h0 | ⟨b, o, hA, hc⟩
  · rw [h0] at hl; simp at hl; omega
  · obtain ⟨cs, h1, h2, h3⟩ := hc j _ hx
    exact ⟨b, o, _, cs, hA, hx, h1, h2, h3⟩
end Go.Proofs.Ytebpdlggkncliaa
