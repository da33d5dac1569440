/-
  awake: the chapter's examples come out as written.
-/
import Derived.Test.YtebpdlggkncliaaK1
import Derived.Lib.SlBytesConst
import Derived.OpenShut
import Derived.Deep.Slices
import Derived.ChangeArms
import Derived.Test.YtebpdlggkncliaaRows
import Derived.ProofKit
import Derived.ChangeOld
import Derived.Deep.QuietTactic
import Derived.BigQuiet
import Derived.Laws.CopyOwn
import Derived.Deep.OwnRows
import Derived.Lib.SlBuf
import Derived.Laws.MakeOwn
import Derived.Deep.RegionHeld3
set_option linter.unusedSimpArgs false
namespace Go.Proofs.Ytebpdlggkncliaa
open Go.RowKit
open Go.Lib (byteCells byteCells_length byteCells_append uvarint uvarint_small uvarint_big)

/-- bytes that were just laid in a block of their own -/
theorem new_is (w : World) (t : TypeId) (fr : Nat × Nat) (l : List UInt8) (n : Nat) (cs : Array Value) (h : cs = (byteCells l).toArray) (hn : l.length = n) :
    IsB (w.alloc (.cells cs t fr)) (some ⟨w.heap.size, 0, none⟩) n n l := by
  refine ⟨hn, Nat.le_refl _, (fun h => by cases h), .inr ⟨w.heap.size, 0, rfl, fun j u hj => ?_⟩⟩
  rw [cell_of_row (w.alloc (.cells cs t fr)) w.heap.size (0 + j) cs t fr (heap_alloc_new w _), h, Nat.zero_add, List.getElem?_toArray, byteCells, List.getElem?_map, hj]
  rfl
theorem bstep {w w1 w2 : World} {o : Obj} (h : Below w.heap.size w w1) (h2 : Below (w1.alloc o).heap.size (w1.alloc o) w2) : Below w.heap.size w w2 :=
  (h.alloc h.size o).trans (h2.mono (by have := h.size; simp; omega))
theorem bstep0 {w w1 w2 : World} (h : Below w.heap.size w w1) (h2 : Below w1.heap.size w1 w2) : Below w.heap.size w w2 := h.trans (h2.mono h.size)

theorem uv127 : uvarint 127 = [127] := uvarint_small (by decide)
theorem uv0 : uvarint 0 = [0] := uvarint_small (by decide)
theorem uv128 : uvarint 128 = [128, 1] := by rw [uvarint_big (by decide), uvarint_small (by decide)]; rfl
theorem uv300 : uvarint 300 = [172, 2] := by rw [uvarint_big (by decide), uvarint_small (by decide)]; rfl
theorem uv2 : uvarint 2 = [2] := uvarint_small (by decide)

theorem crc_lit (l : List UInt8) (m q : Nat) (x : Int) (cs : Array Value) (w : World) (t : TypeId) (fr : Nat × Nat) (hx : x = (q : Int)) (hq : crc l = q) (hcs : cs = (byteCells l).toArray) (hm : l.length = m) (hb : m ≤ 100) :
    Calls Try.prog 131 #[.slice (some ⟨w.heap.size, 0, none⟩) m m] (w.alloc (.cells cs t fr)).drew fun e w' => e = .returned (.int .u32 x) ∧ Below (w.alloc (.cells cs t fr)).heap.size (w.alloc (.cells cs t fr)) w' := by
  subst hx
  refine (crc_any _ m m l _ (new_is w t fr l m cs hcs hm).drew (by omega)).mono ?_
  rintro e w' ⟨rfl, hb⟩
  exact ⟨by rw [hq], (Below.refl _ _).drew.trans hb⟩
theorem seal_nil (w : World) : Calls Try.prog 96 #[.slice none 0 0] w fun e w' =>
    ∃ A m c, e = .returned (.slice A m c) ∧ IsB w' A m c [0, 0, 0, 0] ∧ Below w.heap.size w w' :=
  (seal_any none 0 0 [] w (IsB.nil w) (by decide)).mono fun e w' h => by
    obtain ⟨v, he, ho, hb⟩ := h
    obtain ⟨A, m, c, rfl, hi⟩ := own_slice ho
    exact ⟨A, m, c, he, hi, hb⟩

end Go.Proofs.Ytebpdlggkncliaa

/-
  What a slice of bytes that came in holds, as the row's reading gives it.
-/
namespace Go.Proofs.Ytebpdlggkncliaa
open Go.RowKit

theorem wf_u8 {n : Int} (h : (Lit.int .u8 n).wf = true) : 0 ≤ n ∧ n < 256 := by
  have : 0 ≤ n ∧ n ≤ 255 := by simpa [Lit.wf, IntKind.min, IntKind.max, IntKind.signed, IntKind.bits] using h
  omega
theorem wf_u64 {n : Int} (h : (Lit.int .u64 n).wf = true) : 0 ≤ n ∧ n < 18446744073709551616 := by
  have : 0 ≤ n ∧ n ≤ 18446744073709551615 := by simpa [Lit.wf, IntKind.min, IntKind.max, IntKind.signed, IntKind.bits] using h
  omega
theorem wf_i64 {n : Int} (h : (Lit.int .i64 n).wf = true) : -9223372036854775808 ≤ n ∧ n ≤ 9223372036854775807 := by
  simpa [Lit.wf, IntKind.min, IntKind.max, IntKind.signed, IntKind.bits] using h

theorem isB_of_row {w : World} {x : Addr} {len cap : Nat} {zs : List Int} (hl : len ≤ cap) (hz : zs.length = cap)
    (hcell : ∀ i, i < zs.length → w.cell? (x.add i) = some (.int .u8 (zs.getD i 0))) (hwz : ∀ n ∈ zs, (Lit.int .u8 n).wf = true) :
    ∃ l, IsB w (some x) len cap l := by
  refine ⟨(zs.take len).map fun z => z.toNat.toUInt8, ?_, hl, (fun h => by cases h), ?_⟩
  · rw [List.length_map, List.length_take]; omega
  · rcases Nat.eq_zero_or_pos len with h0 | h0
    · subst h0; exact .inl (by simp)
    · obtain ⟨b, o, spot⟩ := x
      have hc := hcell 0 (by omega)
      have hspot : spot = none := by simpa [Addr.add] using World.cell?_spot hc
      subst hspot
      refine .inr ⟨b, o, rfl, fun j u hj => ?_⟩
      have hjl : j < ((zs.take len).map fun z => z.toNat.toUInt8).length := (List.getElem?_eq_some_iff.1 hj).1
      rw [List.length_map, List.length_take] at hjl
      have hjz : j < zs.length := by omega
      rw [List.getElem?_map, List.getElem?_take_of_lt (by omega), List.getElem?_eq_getElem hjz] at hj
      obtain rfl := Option.some.inj hj
      have hw := wf_u8 (hwz _ (List.getElem_mem hjz))
      have hc' := hcell j hjz
      rw [Addr.add_lit, List.getD_eq_getElem?_getD, List.getElem?_eq_getElem hjz] at hc'
      rw [hc', byte_toNat (by omega)]
      simp only [Option.getD_some]
      rw [Int.toNat_of_nonneg hw.1]
end Go.Proofs.Ytebpdlggkncliaa

/-
  What arguments with depth hold, as the row's reading gives it: slices of whatever elements, read as lists.
-/
set_option linter.unusedVariables false
namespace Go.Proofs.Ytebpdlggkncliaa
open Go.RowKit Go.Deep Go.ChangeShapes Go.WideShapes

/-- a slice whose elements, of k cells each, read as these by Rel -/
structure IsL {α : Type} (k : Nat) (Rel : List Value → α → Prop) (w : World) (A : Option Addr) (n c : Nat) (xs : List α) : Prop where
  len : xs.length = n
  cap : n ≤ c
  max : c ≤ maxLen
  none_ : A = none → c = 0
  src : xs = [] ∨ ∃ b o, A = some ⟨b, o, none⟩ ∧ ∀ j x, xs[j]? = some x → ∃ cs : List Value, cs.length = k ∧ (∀ i u, cs[i]? = some u → w.cell? ⟨b, o + j * k + i, none⟩ = some u) ∧ Rel cs x

theorem list_of {α : Type} {P : Nat → α → Prop} : ∀ n : Nat, (∀ i, i < n → ∃ x, P i x) → ∃ xs : List α, xs.length = n ∧ ∀ i x, xs[i]? = some x → P i x
  | 0, _ => ⟨[], rfl, fun i x h => by simp at h⟩
  | n + 1, h => by
    obtain ⟨xs, hl, hx⟩ := list_of n fun i hi => h i (by omega)
    obtain ⟨y, hy⟩ := h n (by omega)
    refine ⟨xs ++ [y], by simp [hl], fun i x hi => ?_⟩
    rcases Nat.lt_or_ge i n with hin | hin
    · rw [List.getElem?_append_left (by omega)] at hi
      exact hx i x hi
    · rw [List.getElem?_append_right (by omega)] at hi
      have : i - xs.length = 0 := by
        rcases Nat.eq_zero_or_pos (i - xs.length) with h0 | h0
        · exact h0
        · rw [List.getElem?_eq_none (by simp; omega)] at hi; cases hi
      rw [this] at hi
      simp at hi
      subst hi
      have : i = n := by omega
      subst this
      exact hy

section
variable {H : Type} {enc : TypeId × Value → H} {P : Program} {w : World} {base : Nat} {held : Bool}
theorem open_list {α : Type} (k : Nat) (Rel : List Value → α → Prop) {t e : TypeId} {fuel : Nat} {v : Value} {x : DataW H × List MemPlace} (ht : P.underlying t = some (.slice e)) (hk : P.cellsOf e = k) (hk0 : 0 < k)
    (hel : ∀ (cs : List Value) (n : Nat) (y : DataW H × List MemPlace), cs.length = k → DataW.trod enc P w base (fun _ => true) held n e cs = some y → ∃ a, Rel cs a)
    (h : DataW.trod enc P w base (fun _ => true) held fuel t [v] = some x) :
    ∃ A n c xs, v = .slice A n c ∧ IsL k Rel w A n c xs := by
  subst hk
  rcases open_slice ht h with ⟨hcs, _⟩ | ⟨a, len, cap, m, n, D, Pl, hcs, hb, hl, hm, hmm, hx, hi⟩
  · simp at hcs
    exact ⟨none, 0, 0, [], hcs, rfl, Nat.le_refl _, Nat.zero_le _, fun _ => rfl, .inl rfl⟩
  · simp at hcs
    simp at hmm
    subst hmm
    have hall : ∀ i, i < len → ∃ a', (∃ cs : List Value, cs.length = P.cellsOf e ∧ (∀ j u, cs[j]? = some u → w.cell? ((a.add (i * P.cellsOf e)).add j) = some u) ∧ Rel cs a') := fun i hil => by
      obtain ⟨cs', hc, ht'⟩ := hi i (by omega)
      obtain ⟨_, hcl, hat⟩ := World.cells?_some hc
      obtain ⟨a', ha'⟩ := hel cs' n _ hcl ht'
      refine ⟨a', cs', hcl, fun j u hu => ?_, ha'⟩
      have hj : j < cs'.length := (List.getElem?_eq_some_iff.1 hu).1
      rw [hat j (by omega), hu]
    obtain ⟨xs, hxl, hxs⟩ := list_of len hall
    refine ⟨some a, len, m, xs, hcs, hxl, hl, hm, (fun e => by cases e), ?_⟩
    rcases Nat.eq_zero_or_pos len with h0 | h0
    · subst h0; exact .inl (List.eq_nil_of_length_eq_zero hxl)
    · have hsp : a.spot = none := by
        obtain ⟨cs', hcl, hat, _⟩ := hxs 0 xs[0] (List.getElem?_eq_getElem (by omega))
        have := hat 0 cs'[0] (List.getElem?_eq_getElem (by omega))
        simpa [Addr.add] using World.cell?_spot this
      obtain ⟨b, o, spot⟩ := a
      simp at hsp
      subst hsp
      refine .inr ⟨b, o, rfl, fun j x hj => ?_⟩
      obtain ⟨cs, hcl, hat, hr⟩ := hxs j x hj
      refine ⟨cs, hcl, fun i u hu => ?_, hr⟩
      have := hat i u hu
      rwa [Addr.add_lit, Addr.add_lit] at this

theorem open_bytes {t e : TypeId} {fuel : Nat} {v : Value} {x : DataW H × List MemPlace} (ht : P.underlying t = some (.slice e)) (he : P.underlying e = some (.int .u8)) (hc : P.cellsOf e = 1)
    (h : DataW.trod enc P w base (fun _ => true) held fuel t [v] = some x) : ∃ A n c l, v = .slice A n c ∧ IsB w A n c l ∧ c ≤ maxLen := by
  rcases open_ints ht he hc h with ⟨hcs, _⟩ | ⟨a, len, cap, zs, hcs, _, hl, hm, hz, _, hcell, hwz⟩
  · simp at hcs
    exact ⟨none, 0, 0, [], hcs, IsB.nil w, Nat.zero_le _⟩
  · simp at hcs
    obtain ⟨l, hB⟩ := isB_of_row hl (by simpa using hz) hcell hwz
    exact ⟨some a, len, cap, l, hcs, hB, hm⟩
end

theorem IsL.below {α : Type} {k : Nat} {Rel Rel' : List Value → α → Prop} {w w' : World} {A : Option Addr} {n c : Nat} {xs : List α} (h : IsL k Rel w A n c xs) (hb : Below w.heap.size w w') (hr : ∀ cs x, Rel cs x → Rel' cs x) : IsL k Rel' w' A n c xs := by
  refine ⟨h.len, h.cap, h.max, h.none_, ?_⟩
  rcases h.src with h0 | ⟨b, o, hA, hc⟩
  · exact .inl h0
  · refine .inr ⟨b, o, hA, fun j x hj => ?_⟩
    obtain ⟨cs, hl, hat, hx⟩ := hc j x hj
    exact ⟨cs, hl, fun i u hu => cell_below hb _ _ (hat i u hu), hr _ _ hx⟩
/-- the one element's cells -/
theorem IsL.at_ {α : Type} {k : Nat} {Rel : List Value → α → Prop} {w : World} {A : Option Addr} {n c : Nat} {xs : List α} (h : IsL k Rel w A n c xs) {j : Nat} (hj : j < n) :
    ∃ b o x cs, A = some ⟨b, o, none⟩ ∧ xs[j]? = some x ∧ cs.length = k ∧ (∀ i u, cs[i]? = some u → w.cell? ⟨b, o + j * k + i, none⟩ = some u) ∧ Rel cs x := by
  have hl := h.len
  have hx : xs[j]? = some (xs[j]'(by omega)) := List.getElem?_eq_getElem (by omega)
  rcases h.src with h0 | ⟨b, o, hA, hc⟩
  · rw [h0] at hl; simp at hl; omega
  · obtain ⟨cs, h1, h2, h3⟩ := hc j _ hx
    exact ⟨b, o, _, cs, hA, hx, h1, h2, h3⟩
end Go.Proofs.Ytebpdlggkncliaa

/-
  Pages: entries laid out one behind the other; two pages of entries of the same kinds are the same bytes just if all entries are alike.
-/
namespace Go.Proofs.Ytebpdlggkncliaa
open Go.Lib (uvarint)

theorem uvarint_front {a b : Nat} {r s : List UInt8} (ha : a < 18446744073709551616) (hb : b < 18446744073709551616) (h : uvarint a ++ r = uvarint b ++ s) : a = b ∧ r = s := by
  have h1 := getU_uvarint r ha
  rw [h, getU_uvarint s hb] at h1
  have e : a = b := (congrArg Prod.fst h1).symm
  subst e
  exact ⟨rfl, List.append_cancel_left h⟩

structure Ent where
  kind : Nat
  num : Nat
  str : List UInt8
/-- the number as one with a sign -/
def Ent.signed (x : Ent) : Int := IntKind.i64.wrap (x.num : Int)
def Ent.wf (x : Ent) : Prop := x.kind < 256 ∧ x.num < 18446744073709551616 ∧ x.str.length ≤ 100
def enc (x : Ent) : List UInt8 :=
  if x.kind % 3 = 0 then uvarint x.num else if x.kind % 3 = 1 then uvarint (Lib.zigzag x.signed) else uvarint x.str.length ++ x.str
def alike (x y : Ent) : Prop := if x.kind % 3 = 2 then x.str = y.str else x.num = y.num
def pageOf : List Ent → List UInt8
  | [] => []
  | x :: r => enc x ++ pageOf r
theorem pageOf_snoc (l : List Ent) (x : Ent) : pageOf (l ++ [x]) = pageOf l ++ enc x := by
  induction l with
  | nil => simp [pageOf]
  | cons y r ih => simp [pageOf, ih, List.append_assoc]
theorem signed_in (x : Ent) : -9223372036854775808 ≤ x.signed ∧ x.signed ≤ 9223372036854775807 := by
  unfold Ent.signed
  rw [IntKind.wrap_i64]; omega
theorem signed_inj {x y : Ent} (hx : x.num < 18446744073709551616) (hy : y.num < 18446744073709551616) (h : x.signed = y.signed) : x.num = y.num := by
  unfold Ent.signed at h
  rw [IntKind.wrap_i64, IntKind.wrap_i64] at h; omega
theorem enc_front {x y : Ent} {r s : List UInt8} (hk : x.kind = y.kind) (hx : x.wf) (hy : y.wf) (h : enc x ++ r = enc y ++ s) : alike x y ∧ r = s := by
  unfold enc at h
  unfold alike
  rw [← hk] at h
  by_cases h0 : x.kind % 3 = 0
  · rw [if_pos h0, if_pos h0] at h
    rw [if_neg (by omega)]
    exact uvarint_front hx.2.1 hy.2.1 h
  · rw [if_neg h0, if_neg h0] at h
    by_cases h1 : x.kind % 3 = 1
    · rw [if_pos h1, if_pos h1] at h
      rw [if_neg (by omega)]
      have sx := signed_in x
      have sy := signed_in y
      obtain ⟨e, hr⟩ := uvarint_front (Lib.zigzag_lt sx.1 sx.2) (Lib.zigzag_lt sy.1 sy.2) h
      refine ⟨signed_inj hx.2.1 hy.2.1 ?_, hr⟩
      have := congrArg Lib.unzigzag e
      rwa [unzigzag_zigzag, unzigzag_zigzag] at this
    · rw [if_neg h1, if_neg h1, List.append_assoc, List.append_assoc] at h
      rw [if_pos (by omega)]
      have lx := hx.2.2
      have ly := hy.2.2
      obtain ⟨e, hr⟩ := uvarint_front (by omega) (by omega) h
      exact List.append_inj hr e
def allAlike : List Ent → List Ent → Prop
  | [], [] => True
  | x :: l, y :: m => alike x y ∧ allAlike l m
  | _, _ => False
theorem page_inj : ∀ (l m : List Ent), l.map Ent.kind = m.map Ent.kind → (∀ x ∈ l, x.wf) → (∀ x ∈ m, x.wf) → pageOf l = pageOf m → allAlike l m
  | [], [], _, _, _, _ => trivial
  | [], _ :: _, hk, _, _, _ => by simp at hk
  | _ :: _, [], hk, _, _, _ => by simp at hk
  | x :: l, y :: m, hk, hl, hm, h => by
    simp only [List.map_cons, List.cons.injEq] at hk
    obtain ⟨ha, hr⟩ := enc_front hk.1 (hl x (List.mem_cons_self ..)) (hm y (List.mem_cons_self ..)) h
    exact And.intro ha (page_inj l m hk.2 (fun z hz => hl z (List.mem_cons_of_mem _ hz)) (fun z hz => hm z (List.mem_cons_of_mem _ hz)) hr)
theorem enc_same {x y : Ent} (hk : x.kind = y.kind) (h : alike x y) : enc x = enc y := by
  unfold enc
  unfold alike at h
  rw [← hk]
  by_cases h2 : x.kind % 3 = 2
  · rw [if_pos h2] at h
    rw [if_neg (by omega), if_neg (by omega), if_neg (by omega), if_neg (by omega), h]
  · rw [if_neg h2] at h
    have : x.signed = y.signed := by unfold Ent.signed; rw [h]
    by_cases h0 : x.kind % 3 = 0
    · rw [if_pos h0, if_pos h0, h]
    · rw [if_neg h0, if_neg h0, if_pos (by omega), if_pos (by omega), this]
theorem page_same : ∀ (l m : List Ent), l.map Ent.kind = m.map Ent.kind → allAlike l m → pageOf l = pageOf m
  | [], [], _, _ => rfl
  | [], _ :: _, _, h => h.elim
  | _ :: _, [], _, h => h.elim
  | x :: l, y :: m, hk, h => by
    obtain ⟨ha, hr⟩ := h
    simp only [List.map_cons, List.cons.injEq] at hk
    unfold pageOf
    rw [enc_same hk.1 ha, page_same l m hk.2 hr]
/-- no entry is long, so a page isn't -/
theorem enc_short {x : Ent} (hx : x.wf) : (enc x).length ≤ 110 := by
  have h2 := hx.2.2
  unfold enc
  split
  · have := Lib.uvarint_length64 hx.2.1; omega
  · split
    · have := Lib.uvarint_length64 (Lib.zigzag_lt (signed_in x).1 (signed_in x).2); omega
    · have := Lib.uvarint_length64 (x := x.str.length) (by omega)
      rw [List.length_append]; omega
theorem page_short : ∀ (l : List Ent), (∀ x ∈ l, x.wf) → (pageOf l).length ≤ 110 * l.length
  | [], _ => by simp [pageOf]
  | x :: l, h => by
    have h1 := enc_short (h x (List.mem_cons_self ..))
    have h2 := page_short l fun z hz => h z (List.mem_cons_of_mem _ hz)
    unfold pageOf
    rw [List.length_append, List.length_cons]; omega
end Go.Proofs.Ytebpdlggkncliaa

/-
  The sum sees noughts: the register behind 8 m halvings (m from 1 to 200) is another one, unless it is 0. By an inverse for each m, checked by the kernel at one vector of which all others are halvings.
-/
namespace Go.Proofs.Ytebpdlggkncliaa

/-- the sum, over the set bits of q, of x halved so often -/
def ap : Nat → Nat → Nat → Nat
  | 0, _, _ => 0
  | k + 1, q, x => (if q % 2 = 1 then x else 0) ^^^ ap k (q / 2) (halve x)
theorem xor_swap (a b c d : Nat) : (a ^^^ b) ^^^ (c ^^^ d) = (a ^^^ c) ^^^ (b ^^^ d) := by
  rw [Nat.xor_assoc, Nat.xor_assoc, ← Nat.xor_assoc b c d, Nat.xor_comm b c, Nat.xor_assoc]
theorem ap_xor (k q x y : Nat) : ap k q (x ^^^ y) = ap k q x ^^^ ap k q y := by
  induction k generalizing q x y with
  | zero => simp [ap]
  | succ k ih =>
    rw [ap, ap, ap, halve_xor, ih, xor_swap]
    by_cases h : q % 2 = 1
    · rw [if_pos h, if_pos h, if_pos h]
    · rw [if_neg h, if_neg h, if_neg h, Nat.xor_self]
theorem ap_halve (k q x : Nat) : ap k q (halve x) = halve (ap k q x) := by
  induction k generalizing q x with
  | zero => simp [ap, halve]
  | succ k ih =>
    rw [ap, ap, ih (q / 2) (halve x), halve_xor]
    by_cases h : q % 2 = 1
    · rw [if_pos h, if_pos h]
    · rw [if_neg h, if_neg h]; rfl
theorem ap_zero (k q : Nat) : ap k q 0 = 0 := by
  have h := ap_xor k q 0 0
  rwa [Nat.xor_self, Nat.xor_self] at h

/-- a step that is linear, goes with halving and leaves one vector leaves all -/
def turn (j q x : Nat) : Nat := ap 32 q (halveN j x ^^^ x)
theorem turn_xor (j q x y : Nat) : turn j q (x ^^^ y) = turn j q x ^^^ turn j q y := by
  unfold turn
  rw [halveN_xor, xor_swap, ap_xor]
theorem turn_halve (j q x : Nat) : turn j q (halve x) = halve (turn j q x) := by
  unfold turn
  have h : halveN j (halve x) = halve (halveN j x) := by
    have h1 := halveN_succ j x
    exact h1
  rw [h, ← halve_xor, ap_halve]
theorem turn_halveN (j q k x : Nat) : turn j q (halveN k x) = halveN k (turn j q x) := by
  induction k generalizing x with
  | zero => rfl
  | succ k ih => rw [halveN, ih, turn_halve]; rfl
theorem bit_of (k : Nat) (hk : k < 32) : halveN (31 - k) 2147483648 = 2 ^ k := by
  have h : ∀ k : Fin 32, halveN (31 - k.val) 2147483648 = 2 ^ k.val := by decide
  exact h ⟨k, hk⟩
theorem add_xor (k r : Nat) (h : r < 2 ^ k) : 2 ^ k + r = 2 ^ k ^^^ r := by
  apply Nat.eq_of_testBit_eq
  intro i
  rw [Nat.testBit_xor]
  rcases Nat.lt_trichotomy i k with hi | hi | hi
  · rw [Nat.testBit_two_pow_add_gt hi, Nat.testBit_two_pow]
    simp [Nat.ne_of_gt hi]
  · subst hi
    rw [Nat.testBit_two_pow_add_eq, Nat.testBit_two_pow_self, Nat.testBit_lt_two_pow h]
    rfl
  · have h1 : (2 ^ k + r).testBit i = false := Nat.testBit_lt_two_pow (by
      have := Nat.pow_le_pow_right (n := 2) (by decide) (show k + 1 ≤ i by omega)
      rw [Nat.pow_succ] at this
      omega)
    have h2 : r.testBit i = false := Nat.testBit_lt_two_pow (Nat.lt_of_lt_of_le h (Nat.pow_le_pow_right (by decide) (by omega)))
    rw [h1, h2, Nat.testBit_two_pow]
    simp [Nat.ne_of_lt hi]
theorem turn_all {j q : Nat} (h : turn j q 2147483648 = 2147483648) : ∀ (k r : Nat), k ≤ 32 → r < 2 ^ k → turn j q r = r
  | 0, r, _, hr => by
    obtain rfl : r = 0 := by omega
    unfold turn
    rw [halveN_zero]
    exact ap_zero _ _
  | k + 1, r, hk, hr => by
    by_cases hlt : r < 2 ^ k
    · exact turn_all h k r (by omega) hlt
    · have hr' : r - 2 ^ k < 2 ^ k := by rw [Nat.pow_succ] at hr; omega
      have e : r = 2 ^ k ^^^ (r - 2 ^ k) := by rw [← add_xor k _ hr']; omega
      rw [e, turn_xor, turn_all h k _ (by omega) hr', ← bit_of k (by omega), turn_halveN, h]
/-- so nothing but 0 is left by so many halvings -/
theorem only_zero {j q r : Nat} (h : turn j q 2147483648 = 2147483648) (hr : r < 4294967296) (hj : halveN j r = r) : r = 0 := by
  have h1 := turn_all h 32 r (by decide) hr
  unfold turn at h1
  rw [hj, Nat.xor_self, ap_zero] at h1
  exact h1.symm

/-- the inverses -/
def inverses : List Nat := [
  3140311070, 690548721, 2788185386, 787596701, 2022499354, 824328717, 1565730423, 2194431077, 2800321482, 1281760478,
  2466777858, 3882102033, 2130045075, 2426001042, 60948984, 4003555840, 2666699487, 3548335438, 323034389, 2542109265,
  1580416992, 1057448970, 1470558877, 1559709651, 3052177875, 3790942293, 1076229863, 4285696950, 450102110, 299725026,
  2403361941, 584514061, 355928664, 4124533229, 3453676134, 79663748, 684146807, 3474326425, 2688802856, 1608279939,
  4049897786, 3256300454, 2430309539, 2185728454, 766972721, 1044037863, 154434615, 3442714768, 47234226, 1094455012,
  1463184996, 3503332744, 3535187780, 2952044248, 3266907774, 1068094657, 1876160137, 1648293324, 2285077219, 938336775,
  551757050, 3091840380, 497920499, 4073219431, 590159947, 210943854, 977925559, 1444339066, 3559798430, 3166100733,
  3406268421, 3852977205, 3239401074, 270352276, 3972303256, 3323291628, 2079769221, 4268894312, 2069897967, 2850987454,
  1610861605, 3731006285, 2877068935, 2913811001, 3431192741, 3961742200, 709026602, 3707066709, 203833421, 2586193937,
  4261448797, 753156053, 1785912705, 3113202519, 2556745425, 2294690527, 3128617527, 3241984411, 1538306796, 422747718,
  2572706382, 3962910774, 3837939505, 943018370, 3810542039, 808690904, 147098006, 194164321, 2114187895, 3339582279,
  1862789841, 2830520765, 3517749527, 644188964, 2724460299, 624737860, 1262210153, 1740926606, 1464622708, 2278121482,
  2002146624, 2064884956, 3703674944, 1659339940, 3671850064, 2321641936, 1696050185, 4034742885, 2987611651, 1195234754,
  2735664641, 2930714280, 1753332878, 2765551272, 786820588, 3989615692, 3483302392, 3426963991, 143132585, 3256146835,
  3702763004, 1291989671, 4258920871, 1225158123, 3469928367, 2885813102, 3999032673, 2004331723, 1843706544, 1813280044,
  1425788197, 2989724881, 3612045609, 3995483869, 649688007, 2054433042, 1000698645, 1986800293, 1883166231, 3840155502,
  1560552039, 3430158044, 2684077826, 2497552602, 1610087215, 1670935423, 846080578, 3136251763, 2097398657, 1248139120,
  3246866964, 2008500161, 741125989, 1525429842, 690261882, 242224653, 854030296, 1636857316, 1259877958, 1661342778,
  2900270494, 2852921785, 2076189063, 1243871522, 4093587748, 1066516417, 499721549, 1835628181, 1024266103, 858069993,
  468417795, 2889792051, 3468687688, 4100500963, 4026095995, 2557745990, 1861975869, 3365359654, 2061698621, 1861456205]
def allGood : List Nat → Nat → Bool
  | [], _ => true
  | q :: qs, v => (ap 32 q (halveN 8 v ^^^ 2147483648) == 2147483648) && allGood qs (halveN 8 v)
theorem inverses_length : inverses.length = 200 := by decide +kernel
theorem allGood_holds : allGood inverses 2147483648 = true := by decide +kernel
theorem allGood_at : ∀ (qs : List Nat) (i m : Nat), allGood qs (halveN (8 * i) 2147483648) = true → m < qs.length → ∃ q, turn (8 * (i + m + 1)) q 2147483648 = 2147483648
  | [], _, _, _, hm => by simp at hm
  | q :: qs, i, m, h, hm => by
    have e : halveN 8 (halveN (8 * i) 2147483648) = halveN (8 * (i + 1)) 2147483648 := by
      rw [← halveN_add]; congr 1; omega
    rw [allGood, Bool.and_eq_true, beq_iff_eq, e] at h
    match m, hm with
    | 0, _ => exact ⟨q, h.1⟩
    | m + 1, hm =>
      obtain ⟨q', hq'⟩ := allGood_at qs (i + 1) m h.2 (by simpa using hm)
      exact ⟨q', by rw [show i + (m + 1) + 1 = i + 1 + m + 1 by omega]; exact hq'⟩
theorem noughts_move {m r : Nat} (h1 : 1 ≤ m) (h2 : m ≤ 200) (hr : r < 4294967296) (h : halveN (8 * m) r = r) : r = 0 := by
  obtain ⟨q, hq⟩ := allGood_at inverses 0 (m - 1) allGood_holds (by have := inverses_length; omega)
  rw [show 0 + (m - 1) + 1 = m by omega] at hq
  exact only_zero hq hr h

/- ## the sum -/
theorem crcReg_zeros (m r : Nat) : crcReg r (List.replicate m 0) = halveN (8 * m) r := by
  induction m generalizing r with
  | zero => show crcReg r [] = halveN 0 r; rfl
  | succ m ih =>
    rw [List.replicate_succ]
    show crcReg (crcStep r (UInt8.toNat 0)) (List.replicate m 0) = _
    rw [ih]
    have e : crcStep r (UInt8.toNat 0) = halveN 8 r := by
      unfold crcStep
      rw [show UInt8.toNat 0 = 0 by rfl, Nat.xor_zero]
    rw [e, ← halveN_add]
    congr 1
theorem crcReg_xor (l : List UInt8) (r s : Nat) : crcReg r l ^^^ crcReg s l = halveN (8 * l.length) (r ^^^ s) := by
  induction l generalizing r s with
  | nil => rfl
  | cons x l ih =>
    show crcReg (crcStep r x.toNat) l ^^^ crcReg (crcStep s x.toNat) l = _
    rw [ih]
    unfold crcStep
    rw [← halveN_xor, xor_swap, Nat.xor_self, Nat.xor_zero, ← halveN_add, List.length_cons]
    congr 1
theorem crcReg_inj {l : List UInt8} {r s : Nat} (hr : r < 4294967296) (hs : s < 4294967296) (h : crcReg r l = crcReg s l) : r = s := by
  have e := crcReg_xor l r s
  rw [h, Nat.xor_self] at e
  exact eq_of_xor_zero (halveN_eq_zero _ (Nat.xor_lt_two_pow (n := 32) (by omega) (by omega)) e.symm)
theorem noughts_ahead (l : List UInt8) {m : Nat} (h1 : 1 ≤ m) (h2 : m ≤ 200) : crc (List.replicate m 0 ++ l) ≠ crc l := by
  unfold crc
  rw [crcReg_append, crcReg_zeros]
  intro h
  have ha := crcReg_lt l (halveN_lt (8 * m) (u := 4294967295) (by decide))
  have hb := crcReg_lt l (r := 4294967295) (by decide)
  have e := crcReg_inj (halveN_lt (8 * m) (u := 4294967295) (by decide)) (by decide) (show crcReg (halveN (8 * m) 4294967295) l = crcReg 4294967295 l by omega)
  have := noughts_move h1 h2 (by decide) e
  omega
theorem noughts_behind (l : List UInt8) {m : Nat} (h1 : 1 ≤ m) (h2 : m ≤ 200) : crc (l ++ List.replicate m 0) = crc l ↔ crc l = 4294967295 := by
  unfold crc
  rw [crcReg_append, crcReg_zeros]
  have hb := crcReg_lt l (r := 4294967295) (by decide)
  have hc := halveN_lt (8 * m) hb
  constructor
  · intro h
    have := noughts_move h1 h2 hb (by omega)
    omega
  · intro h
    have h0 : crcReg 4294967295 l = 0 := by omega
    rw [h0, halveN_zero]
end Go.Proofs.Ytebpdlggkncliaa

/-
  BytesWithin: for any number, any bytes ahead, the law returns true: whoever reads on within a number reads what is left of it. No condition.
-/
set_option linter.unusedSimpArgs false
namespace Go.Proofs.Ytebpdlggkncliaa
open Go.RowKit
theorem own_empty (w : World) (e : TypeId) : Own (w.alloc (.cells #[] e)) w.heap.size e (.slice (some ⟨w.heap.size, 0, none⟩) 0 0) [] :=
  World.ownsRow_made w #[] 0 (Nat.le_refl _) (Nat.zero_le _) rfl
end Go.Proofs.Ytebpdlggkncliaa
namespace Go.Proofs.Ytebpdlggkncliaa.bytesWithin
open Go.ChangeShapes Go.WideShapes Go.ChangeAt Go.RowKit
open Go.Lib (uvarint)
set_option linter.unusedVariables false

theorem within_get (A : Option Addr) (m c L k n : Nat) (l : List UInt8) (w : World) (hl : l.length = m) (hL : (uvarint n).length = L) (hn : n < 18446744073709551616) (h : IsB w A (m + L) c (l ++ uvarint n)) (hm : m ≤ 100) (hk : k < L) (hL1 : L ≤ 10) :
    Calls Try.prog 98 #[.slice A (m + L) c, .int .i64 ((m : Int) + (k : Int))] w fun e w' =>
      e = .returned (.tuple #[.int .u64 ((n / 128 ^ k : Nat) : Int), .int .i64 ((m : Int) + (L : Int)), .int .i64 0]) ∧ w = w' := by
  have hc := getUint_any A (m + L) c (m + k) _ w h (by omega) (by omega)
  have hd : (l ++ uvarint n).drop (m + k) = uvarint (n / 128 ^ k) := by
    rw [← List.drop_drop, show List.drop m (l ++ uvarint n) = uvarint n by rw [← hl]; exact List.drop_left, drop_uvarint k n (by omega)]
  have hlen : (uvarint (n / 128 ^ k)).length = L - k := by
    rw [← drop_uvarint k n (by omega), List.length_drop, hL]
  have hlt : n / 128 ^ k < 18446744073709551616 := Nat.lt_of_le_of_lt (Nat.div_le_self _ _) hn
  rw [hd, getU_uvarint' hlt, hlen] at hc
  have hx : (((m + k : Nat) : Nat) : Int) = (m : Int) + (k : Int) := by omega
  have hnx : ((nextU (m + k) (n / 128 ^ k, L - k, 0) : Nat) : Int) = (m : Int) + (L : Int) := by
    unfold nextU
    rw [if_pos rfl]
    dsimp only
    omega
  unfold ansU at hc
  rw [hx, hnx] at hc
  exact hc
theorem shift_eq (n k : Nat) : (n : Int) / 2 ^ (7 * k) = ((n / 128 ^ k : Nat) : Int) := by
  rw [show (128 : Nat) = 2 ^ 7 by rfl, ← Nat.pow_mul, Int.natCast_ediv, Int.natCast_pow]
  rfl
theorem end_get (A : Option Addr) (m c L n : Nat) (l : List UInt8) (w : World) (hl : l.length = m) (hL : (uvarint n).length = L) (h : IsB w A (m + L) c (l ++ uvarint n)) (hm : m + L ≤ 200) :
    Calls Try.prog 98 #[.slice A (m + L) c, .int .i64 ((m : Int) + (L : Int))] w fun e w' =>
      e = .returned (.tuple #[.int .u64 0, .int .i64 0, .int .i64 11]) ∧ w = w' := by
  have hc := getUint_any A (m + L) c (m + L) _ w h (by omega) (by omega)
  rw [List.drop_of_length_le (by rw [List.length_append]; omega), getU_nil] at hc
  exact hc
theorem uvarint_big_len : ∀ (L n : Nat), (uvarint n).length = L + 1 → 1 ≤ L → 128 ^ L ≤ n
  | 0, _, _, h => by omega
  | L + 1, n, h, _ => by
    by_cases hs : n < 128
    · rw [Lib.uvarint_small hs] at h
      simp at h
    · rw [Lib.uvarint_big (by omega), List.length_cons] at h
      rcases Nat.eq_zero_or_pos L with h0 | h0
      · subst h0; simp; omega
      · have := uvarint_big_len L (n / 128) (by omega) h0
        rw [Nat.pow_succ]
        have h2 := Nat.mul_le_mul_right 128 this
        omega
theorem last_bit (n L : Nat) (h : (uvarint n).length = L) (h0 : 0 < n) : decide (0 < (n : Int) / 2 ^ (7 * L - 7)) = true := by
  have hL := Lib.uvarint_pos n
  obtain ⟨k, rfl⟩ : ∃ k, L = k + 1 := ⟨L - 1, by omega⟩
  have e : 7 * (k + 1) - 7 = 7 * k := by omega
  rw [e, shift_eq, decide_eq_true_eq]
  have h1 : 128 ^ k ≤ n := by
    rcases Nat.eq_zero_or_pos k with hk | hk
    · subst hk; rw [Nat.pow_zero]; omega
    · exact uvarint_big_len k n h hk
  have h2 : 0 < 128 ^ k := Nat.pow_pos (by decide)
  have := Nat.div_pos h1 h2
  omega

end Go.Proofs.Ytebpdlggkncliaa.bytesWithin

/-
  Two arrays of four bytes are the same just if all four are.
-/
set_option linter.unusedSimpArgs false
namespace Go.Proofs.Ytebpdlggkncliaa
open Go.RowKit

theorem info4 : (Try.prog.info? 5).map (fun i => (i.zero, i.size, i.bytes)) = some (some (.int .u8 0), 1, 1) := by kernel_rfl
theorem run_eq4 (w : World) (a0 a1 a2 a3 b0 b1 b2 b3 : Int) :
    (Op.equalIn 10000 170 (.agg #[.int .u8 a0, .int .u8 a1, .int .u8 a2, .int .u8 a3]) (.agg #[.int .u8 b0, .int .u8 b1, .int .u8 b2, .int .u8 b3])).run Try.prog w =
      .ok (a0 == b0 && (a1 == b1 && (a2 == b2 && a3 == b3))) w := by
  obtain ⟨i0, hi, hz0, hz1, hz2⟩ := info_parts info4
  have he := fun (d : Nat) (a b : Int) (w : World) => run_equalIn_int (P := Try.prog) w d 5 .u8 .u8 a b Try.underlying5
  have hpart : ∀ (cs : Array Value) (k : Nat) (x : Int) (w : World), cs[k]? = some (.int .u8 x) → (part 5 cs k).run Try.prog w = .ok (.int .u8 x) w := by
    intro cs k x w h
    simp [part, h]
  have hs : ∀ w : World, (sizeOf 5).run Try.prog w = .ok 1 w := by
    intro w
    simp [sizeOf, typeInfo, hi, hz1]
  have p0 := fun w => hpart #[.int .u8 a0, .int .u8 a1, .int .u8 a2, .int .u8 a3] 0 a0 w rfl
  have p1 := fun w => hpart #[.int .u8 a0, .int .u8 a1, .int .u8 a2, .int .u8 a3] 1 a1 w rfl
  have p2 := fun w => hpart #[.int .u8 a0, .int .u8 a1, .int .u8 a2, .int .u8 a3] 2 a2 w rfl
  have p3 := fun w => hpart #[.int .u8 a0, .int .u8 a1, .int .u8 a2, .int .u8 a3] 3 a3 w rfl
  have q0 := fun w => hpart #[.int .u8 b0, .int .u8 b1, .int .u8 b2, .int .u8 b3] 0 b0 w rfl
  have q1 := fun w => hpart #[.int .u8 b0, .int .u8 b1, .int .u8 b2, .int .u8 b3] 1 b1 w rfl
  have q2 := fun w => hpart #[.int .u8 b0, .int .u8 b1, .int .u8 b2, .int .u8 b3] 2 b2 w rfl
  have q3 := fun w => hpart #[.int .u8 b0, .int .u8 b1, .int .u8 b2, .int .u8 b3] 3 b3 w rfl
  have he' := fun (a b : Int) (w : World) => he 9998 a b w
  show (Op.equalIn (9999 + 1) 170 _ _).run _ _ = _
  rw [Op.equalIn]
  simp only [Sem.run_bind, run_underlying Try.underlying170, Result.andThen_ok, hs, Std.Legacy.Range.forIn_eq_forIn_range']
  rw [show List.range' (Std.Legacy.Range.start [:4]) (Std.Legacy.Range.size [:4]) (Std.Legacy.Range.step [:4]) = [0, 1, 2, 3] by rfl]
  cases h0 : (a0 == b0) <;> cases h1 : (a1 == b1) <;> cases h2 : (a2 == b2) <;> cases h3 : (a3 == b3) <;>
    simp [Sem.run_bind, Result.andThen_ok, p0, p1, p2, p3, q0, q1, q2, q3, he', h0, h1, h2, h3, Sem.run_pure]
end Go.Proofs.Ytebpdlggkncliaa

/-
  Unseal: what was sealed, or why not.
-/
set_option linter.unusedSimpArgs false
namespace Go.Proofs.Ytebpdlggkncliaa
open Go.RowKit
open Go.Lib (byteCells byteCells_length byteCells_append uvarint)

theorem unseal_short (A : Option Addr) (n c : Nat) (w : World) (h4 : n < 4) :
    Calls Try.prog 99 #[.slice A n c] w fun e w' => e = .returned (.tuple #[.slice none 0 0, .int .i64 11]) ∧ w = w' := by
  go_enter Try.func99, Try.ntmps99
  go_wp2
  go_ret2
  exact ⟨rfl, rfl⟩

theorem four_eq {s : Nat} (hs : s < 4294967296) (x0 x1 x2 x3 : UInt8) :
    ((((x0.toNat : Int) == (s : Int) / 16777216) && (((x1.toNat : Int) == (s : Int) / 65536 % 256) && (((x2.toNat : Int) == (s : Int) / 256 % 256) && ((x3.toNat : Int) == (s : Int) % 256)))) = true) ↔ [x0, x1, x2, x3] = sumBytes s := by
  have e0 : ((s / 16777216).toUInt8).toNat = s / 16777216 := byte_toNat (by omega)
  have e1 : ((s / 65536 % 256).toUInt8).toNat = s / 65536 % 256 := byte_toNat (by omega)
  have e2 : ((s / 256 % 256).toUInt8).toNat = s / 256 % 256 := byte_toNat (by omega)
  have e3 : ((s % 256).toUInt8).toNat = s % 256 := byte_toNat (by omega)
  simp only [Bool.and_eq_true, beq_iff_eq]
  constructor
  · rintro ⟨h0, h1, h2, h3⟩
    unfold sumBytes
    have g0 : x0 = (s / 16777216).toUInt8 := UInt8.toNat_inj.1 (by omega)
    have g1 : x1 = (s / 65536 % 256).toUInt8 := UInt8.toNat_inj.1 (by omega)
    have g2 : x2 = (s / 256 % 256).toUInt8 := UInt8.toNat_inj.1 (by omega)
    have g3 : x3 = (s % 256).toUInt8 := UInt8.toNat_inj.1 (by omega)
    rw [g0, g1, g2, g3]
  · intro h
    unfold sumBytes at h
    injection h with h0 h
    injection h with h1 h
    injection h with h2 h
    injection h with h3 h
    rw [h0, h1, h2, h3]
    refine ⟨?_, ?_, ?_, ?_⟩ <;> omega

set_option maxRecDepth 100000 in
theorem unseal_long (b o n c : Nat) (l : List UInt8) (x0 x1 x2 x3 : UInt8) (w : World) (hn : n ≤ 35184372088832) (hc : n + 4 ≤ c)
    (h : IsB w (some ⟨b, o, none⟩) n c l) (h0 : w.cell? ⟨b, o + n, none⟩ = some (.int .u8 (x0.toNat : Int))) (h1 : w.cell? ⟨b, o + n + 1, none⟩ = some (.int .u8 (x1.toNat : Int)))
    (h2 : w.cell? ⟨b, o + n + 2, none⟩ = some (.int .u8 (x2.toNat : Int))) (h3 : w.cell? ⟨b, o + n + 3, none⟩ = some (.int .u8 (x3.toNat : Int))) :
    Calls Try.prog 99 #[.slice (some ⟨b, o, none⟩) (n + 4) c] w fun e w' =>
      ([x0, x1, x2, x3] = sumBytes (crc l) → ∃ v, e = .returned (.tuple #[v, .int .i64 0]) ∧ Own w' w.heap.size 5 v l) ∧
      ([x0, x1, x2, x3] ≠ sumBytes (crc l) → e = .returned (.tuple #[.slice none 0 0, .int .i64 12])) ∧ Below w.heap.size w w' := by
  have hsub : ((n + 4 : Nat) : Int) - 4 = (n : Int) := by omega
  have hsub' : (n : Int) + 4 - 4 = (n : Int) := by omega
  have hb0 : (0 : Int) ≤ (n : Int) := by omega
  have hb1 : (n : Int) ≤ (c : Int) := by omega
  have hb2 : (n : Int) ≤ (n : Int) + 4 := by omega
  have hne : (c = n) = False := by simp; omega
  go_enter Try.func99, Try.ntmps99
  go_wp2_with fail
  go_quiet (fail)
  go_wp2_with fail
  have hB : Below w.heap.size w (w.drewN nq) := ⟨rfl, rfl, rfl, Nat.le_refl _, fun _ _ => rfl⟩
  replace h := h.below hB
  have hS : (w.drewN nq).drew.cell? ⟨b, o + n, none⟩ = some (.int .u8 (x0.toNat : Int)) ∧ (w.drewN nq).drew.cell? ⟨b, o + n + 1, none⟩ = some (.int .u8 (x1.toNat : Int)) ∧ (w.drewN nq).drew.cell? ⟨b, o + n + 2, none⟩ = some (.int .u8 (x2.toNat : Int)) ∧ (w.drewN nq).drew.cell? ⟨b, o + n + 3, none⟩ = some (.int .u8 (x3.toNat : Int)) := ⟨h0, h1, h2, h3⟩
  clear h0 h1 h2 h3
  generalize w.drewN nq = w1 at hB h hS ⊢
  refine wp_region_held_drew (S := fun w' => w'.cell? ⟨b, o + n, none⟩ = some (.int .u8 (x0.toNat : Int)) ∧ w'.cell? ⟨b, o + n + 1, none⟩ = some (.int .u8 (x1.toNat : Int)) ∧ w'.cell? ⟨b, o + n + 2, none⟩ = some (.int .u8 (x2.toNat : Int)) ∧ w'.cell? ⟨b, o + n + 3, none⟩ = some (.int .u8 (x3.toNat : Int))) (by kernel_rfl) hS (fun hHeld => ?_)
  refine wpAnyH_take (i := 0) (v := ?_) rfl (by kernel_rfl) (by kernel_rfl) (by kernel_rfl) (fun _ _ _ h => h) (Or.inl ⟨by rfl, ?_⟩) hHeld ?_
  rotate_left
  · (intro w hSw; (try dsimp only at hSw); go_simp <;> rfl)
  simp only [Act.put, List.getElem_toArray, List.getElem_cons_zero, List.getElem_cons_succ, List.setIfInBounds_toArray, List.set_cons_zero, List.set_cons_succ]
  refine wpAnyH_take (i := 3) (v := ?_) rfl (by kernel_rfl) (by kernel_rfl) (by kernel_rfl) (fun _ _ _ h => h) (Or.inl ⟨by rfl, ?_⟩) hHeld ?_
  rotate_left
  · (intro w hSw; (try dsimp only at hSw); go_simp <;> rfl)
  simp only [Act.put, List.getElem_toArray, List.getElem_cons_zero, List.getElem_cons_succ, List.setIfInBounds_toArray, List.set_cons_zero, List.set_cons_succ]
  refine wpAnyH_take (i := 1) (v := ?_) rfl (by kernel_rfl) (by kernel_rfl) (by kernel_rfl) (fun _ _ _ h => h) (Or.inl ⟨by rfl, ?_⟩) hHeld ?_
  rotate_left
  · (intro w hSw; (try dsimp only at hSw); go_simp <;> rfl)
  simp only [Act.put, List.getElem_toArray, List.getElem_cons_zero, List.getElem_cons_succ, List.setIfInBounds_toArray, List.set_cons_zero, List.set_cons_succ]
  refine wpAnyH_take (i := 2) (v := ?_) rfl (by kernel_rfl) (by kernel_rfl) (by kernel_rfl) (fun _ _ _ h => h) (Or.inl ⟨by rfl, ?_⟩) hHeld ?_
  rotate_left
  · (intro w hSw; (try dsimp only at hSw); go_simp <;> rfl)
  simp only [Act.put, List.getElem_toArray, List.getElem_cons_zero, List.getElem_cons_succ, List.setIfInBounds_toArray, List.set_cons_zero, List.set_cons_succ]
  refine wpAnyH_ready (rs := [4]) (by kernel_rfl) (by simp) ?_
  refine AllReadyH.cons rfl (fun K hK => ?_) AllReadyH.nil
  go_simp
  refine (crc_any _ n c l _ h.drew (by omega)).mono ?_
  rintro e w2 ⟨rfl, hb2⟩
  dsimp only
  refine hK.out _ _ ⟨cell_below hb2 _ _ hS.1, cell_below hb2 _ _ hS.2.1, cell_below hb2 _ _ hS.2.2.1, cell_below hb2 _ _ hS.2.2.2⟩ (fun hHeld => ?_)
  clear hK K hS
  replace h := h.drew.below hb2
  replace hB := bstep0 hB ((Below.refl _ w1).drew.trans hb2)
  clear hb2
  have hs := crc_lt l
  generalize hse : crc l = sc at hs ⊢
  have HS := Lib.hid hse
  clear hse
  try simp only [Act.put, List.getElem_toArray, List.getElem_cons_zero, List.getElem_cons_succ, List.setIfInBounds_toArray, List.set_cons_zero, List.set_cons_succ]
  refine wpAnyH_ready (rs := [5]) (by kernel_rfl) (by simp) ?_
  refine AllReadyH.cons rfl (fun K hK => ?_) AllReadyH.nil
  go_simp
  refine (laidOut_any sc _ hs).mono ?_
  rintro e w3 ⟨rfl, hb3⟩
  dsimp only
  refine hK.out _ _ ⟨cell_below hb3 _ _ hHeld.1, cell_below hb3 _ _ hHeld.2.1, cell_below hb3 _ _ hHeld.2.2.1, cell_below hb3 _ _ hHeld.2.2.2⟩ (fun hHeld => ?_)
  clear hK K
  replace h := h.below hb3
  replace hB := bstep0 hB hb3
  clear hb3
  try simp only [Act.put, List.getElem_toArray, List.getElem_cons_zero, List.getElem_cons_succ, List.setIfInBounds_toArray, List.set_cons_zero, List.set_cons_succ]
  obtain ⟨r, hr, he4⟩ : ∃ r : Bool, (r = true ↔ [x0, x1, x2, x3] = sumBytes sc) ∧ ∀ W : World, (Op.equalIn 10000 170 (.agg #[.int .u8 (x0.toNat : Int), .int .u8 (x1.toNat : Int), .int .u8 (x2.toNat : Int), .int .u8 (x3.toNat : Int)])
      (.agg #[.int .u8 ((sc : Int) / 16777216), .int .u8 ((sc : Int) / 65536 % 256), .int .u8 ((sc : Int) / 256 % 256), .int .u8 ((sc : Int) % 256)])).run Try.prog W = .ok r W :=
    ⟨_, four_eq hs x0 x1 x2 x3, fun W => run_eq4 W _ _ _ _ _ _ _ _⟩
  have HR := Lib.hid hr
  clear hr
  refine wpAnyH_take (i := 6) (v := ?_) rfl (by kernel_rfl) (by kernel_rfl) (by kernel_rfl) (fun _ _ _ h => h) (Or.inl ⟨by rfl, ?_⟩) hHeld ?_
  rotate_left
  · (intro w hSw; (try dsimp only at hSw); go_simp <;> rfl)
  simp only [Act.put, List.getElem_toArray, List.getElem_cons_zero, List.getElem_cons_succ, List.setIfInBounds_toArray, List.set_cons_zero, List.set_cons_succ]
  refine wpAnyH_done (by kernel_rfl) ?_ _
  clear hHeld he4 hsub hsub' hb0 hb1 hb2 hne
  cases r with
  | false =>
    go_wp2_with fail
    have hne : [x0, x1, x2, x3] ≠ sumBytes sc := fun e => by have := HR.out.2 e; cases this
    refine bodyPost_ret (v := .tuple #[.slice none 0 0, .int .i64 12]) (by simp [results, Try.results99, go_sem]) rfl ?_
    rw [HS.out]
    exact ⟨fun e => absurd e hne, fun _ => rfl, hB⟩
  | true =>
    obtain ⟨i0, hi, hz0, hz1, hz2⟩ := info_parts infoByte
    have hz := hB.size
    go_wp2_with (at_builtin; refine wpList_putAny _ rfl _ _ 26 rfl 5 i0 Try.underlying26 hi hz0 hz1 hz2 w.heap.size _ [] rfl (Own.nil _ _ _) (some ⟨b, o, none⟩) n c l rfl h (by simp; omega) hz ?_; rintro v4 w4 ho4 hb4; rw [List.nil_append] at ho4)
    refine bodyPost_ret (v := .tuple #[v4, .int .i64 0]) (by simp [results, Try.results99, go_sem]) rfl ?_
    rw [HS.out]
    exact ⟨fun _ => ⟨v4, rfl, ho4⟩, fun e => absurd (HR.out.1 (by first | rfl | trivial)) e, hB.trans hb4⟩

/-- bytes with their sum behind them -/
def sealed (l : List UInt8) : List UInt8 := l ++ sumBytes (crc l)
theorem sumBytes_length (s : Nat) : (sumBytes s).length = 4 := rfl
theorem sealed_inj {l m : List UInt8} (h : sealed l = sealed m) : l = m := by
  unfold sealed at h
  have hl := congrArg List.length h
  rw [List.length_append, List.length_append, sumBytes_length, sumBytes_length] at hl
  exact (List.append_inj h (by omega)).1
/-- what Unseal answers -/
def Opened (l : List UInt8) (base : Nat) (e : Ending) (w' : World) : Prop :=
  (∃ body v, l = sealed body ∧ e = .returned (.tuple #[v, .int .i64 0]) ∧ Own w' base 5 v body) ∨
  ((∀ body, l ≠ sealed body) ∧ e = .returned (.tuple #[.slice none 0 0, .int .i64 (if l.length < 4 then 11 else 12)]))
theorem unseal_any (A : Option Addr) (n c : Nat) (l : List UInt8) (w : World) (h : IsB w A n c l) (hn : n ≤ 35184372088832) :
    Calls Try.prog 99 #[.slice A n c] w fun e w' => Opened l w.heap.size e w' ∧ Below w.heap.size w w' := by
  by_cases h4 : n < 4
  · refine (unseal_short A n c w h4).mono ?_
    rintro e w' ⟨rfl, rfl⟩
    refine ⟨.inr ⟨fun body hb => ?_, by rw [if_pos (by rw [h.len]; exact h4)]⟩, Below.refl _ _⟩
    have := congrArg List.length hb
    unfold sealed at this
    rw [List.length_append, sumBytes_length, h.len] at this
    omega
  · obtain ⟨hl, hc, hnone, hsrc⟩ := h
    obtain ⟨k, rfl⟩ : ∃ k, n = k + 4 := ⟨n - 4, by omega⟩
    obtain ⟨b, o, rfl, hcell⟩ : ∃ b o, A = some ⟨b, o, none⟩ ∧ ∀ j u, l[j]? = some u → w.cell? ⟨b, o + j, none⟩ = some (.int .u8 (u.toNat : Int)) := by
      rcases hsrc with rfl | ⟨b, o, hA, hc⟩
      · simp at hl
      · exact ⟨b, o, hA, hc⟩
    obtain ⟨body, x0, x1, x2, x3, rfl, hbl⟩ : ∃ body x0 x1 x2 x3, l = body ++ [x0, x1, x2, x3] ∧ body.length = k := by
      have hd : (l.drop k).length = 4 := by rw [List.length_drop]; omega
      match hq : l.drop k, hd with
      | [x0, x1, x2, x3], _ => exact ⟨l.take k, x0, x1, x2, x3, by rw [← hq, List.take_append_drop], by rw [List.length_take]; omega⟩
    have hb : IsB w (some ⟨b, o, none⟩) k c body := ⟨hbl, by omega, (fun e => by cases e), .inr ⟨b, o, rfl, fun j u hj => hcell j u (by rw [List.getElem?_append_left (by have := (List.getElem?_eq_some_iff.1 hj).1; omega)]; exact hj)⟩⟩
    have at_ : ∀ j u, [x0, x1, x2, x3][j]? = some u → w.cell? ⟨b, o + k + j, none⟩ = some (.int .u8 (u.toNat : Int)) := fun j u hj => by
      rw [Nat.add_assoc]
      exact hcell (k + j) u (by rw [List.getElem?_append_right (by omega), hbl, Nat.add_sub_cancel_left]; exact hj)
    refine (unseal_long b o k c body x0 x1 x2 x3 w (by omega) hc hb (at_ 0 x0 rfl) (at_ 1 x1 rfl) (at_ 2 x2 rfl) (at_ 3 x3 rfl)).mono ?_
    rintro e w' ⟨h1, h2, hB⟩
    refine ⟨?_, hB⟩
    by_cases hs : [x0, x1, x2, x3] = sumBytes (crc body)
    · obtain ⟨v, he, ho⟩ := h1 hs
      exact .inl ⟨body, v, by unfold sealed; rw [hs], he, ho⟩
    · refine .inr ⟨fun body' hb' => ?_, by rw [h2 hs, if_neg (by rw [List.length_append]; simp)]⟩
      unfold sealed at hb'
      have hlen := congrArg List.length hb'
      rw [List.length_append, List.length_append, sumBytes_length] at hlen
      have hh := List.append_inj hb' (by simpa using hlen)
      exact hs (by rw [hh.1]; exact hh.2)
end Go.Proofs.Ytebpdlggkncliaa

/-
  The sum sees neighbours that change places, a byte that is another one, and a sum that is another one.
-/
namespace Go.Proofs.Ytebpdlggkncliaa

theorem crcReg_cons (r : Nat) (x : UInt8) (l : List UInt8) : crcReg r (x :: l) = crcReg (crcStep r x.toNat) l := rfl
theorem crc_inj {l m : List UInt8} (h : crc l = crc m) : crcReg 4294967295 l = crcReg 4294967295 m := by
  unfold crc at h
  have ha := crcReg_lt l (r := 4294967295) (by decide)
  have hb := crcReg_lt m (r := 4294967295) (by decide)
  omega
theorem crcStep_inj {r x y : Nat} (hx : x < 256) (hy : y < 256) (h : crcStep r x = crcStep r y) : x = y := by
  unfold crcStep at h
  have e : halveN 8 ((r ^^^ x) ^^^ (r ^^^ y)) = 0 := by rw [halveN_xor, h, Nat.xor_self]
  rw [xor_swap, Nat.xor_self, Nat.zero_xor] at e
  exact eq_of_xor_zero (halveN_eq_zero 8 (Nat.xor_lt_two_pow (n := 32) (by omega) (by omega)) e)
/-- another byte, another sum -/
theorem crc_turned {p q : List UInt8} {x y : UInt8} (h : crc (p ++ x :: q) = crc (p ++ y :: q)) : x = y := by
  have h1 := crc_inj h
  rw [crcReg_append, crcReg_append, crcReg_cons, crcReg_cons] at h1
  have hr := crcReg_lt p (r := 4294967295) (by decide)
  have h2 := crcReg_inj (crcStep_lt hr x.toNat_lt) (crcStep_lt hr y.toNat_lt) h1
  exact UInt8.toNat_inj.1 (crcStep_inj x.toNat_lt y.toNat_lt h2)
/-- two neighbours that change places -/
theorem crc_swapped {p q : List UInt8} {x y : UInt8} (h : crc (p ++ x :: y :: q) = crc (p ++ y :: x :: q)) : x = y := by
  have h1 := crc_inj h
  rw [crcReg_append, crcReg_append, crcReg_cons, crcReg_cons, crcReg_cons, crcReg_cons] at h1
  have hr := crcReg_lt p (r := 4294967295) (by decide)
  generalize crcReg 4294967295 p = r at hr h1
  have hx := x.toNat_lt
  have hy := y.toNat_lt
  have h2 := crcReg_inj (crcStep_lt (crcStep_lt hr hx) hy) (crcStep_lt (crcStep_lt hr hy) hx) h1
  unfold crcStep at h2
  have e : halveN 8 ((halveN 8 (r ^^^ x.toNat) ^^^ y.toNat) ^^^ (halveN 8 (r ^^^ y.toNat) ^^^ x.toNat)) = 0 := by rw [halveN_xor, h2, Nat.xor_self]
  have hd : x.toNat ^^^ y.toNat < 256 := Nat.xor_lt_two_pow (n := 8) hx hy
  rw [xor_swap, ← halveN_xor, xor_swap r, Nat.xor_self, Nat.zero_xor] at e
  have hlt : halveN 8 (x.toNat ^^^ y.toNat) ^^^ (y.toNat ^^^ x.toNat) < 4294967296 :=
    Nat.xor_lt_two_pow (n := 32) (halveN_lt 8 (by omega)) (by rw [Nat.xor_comm]; omega)
  have e2 := eq_of_xor_zero (halveN_eq_zero 8 hlt e)
  rw [Nat.xor_comm y.toNat] at e2
  have e3 := noughts_move (m := 1) (by decide) (by decide) (show x.toNat ^^^ y.toNat < 4294967296 by omega) e2
  exact UInt8.toNat_inj.1 (eq_of_xor_zero e3)
theorem sumBytes_inj {s t : Nat} (hs : s < 4294967296) (ht : t < 4294967296) (h : sumBytes s = sumBytes t) : s = t := by
  unfold sumBytes at h
  have e : ∀ {a b : Nat}, a < 256 → b < 256 → a.toUInt8 = b.toUInt8 → a = b := fun ha hb h => by
    rw [← byte_toNat ha, h, byte_toNat hb]
  injection h with h0 h
  injection h with h1 h
  injection h with h2 h
  injection h with h3 h
  have g0 := e (by omega) (by omega) h0
  have g1 := e (by omega) (by omega) h1
  have g2 := e (by omega) (by omega) h2
  have g3 := e (by omega) (by omega) h3
  omega
/-- bytes with another body of the same length before the same sum -/
theorem body_other {l m : List UInt8} (hlen : m.length = l.length) (hne : crc m ≠ crc l) : ∀ body, m ++ sumBytes (crc l) ≠ sealed body := by
  intro body h
  unfold sealed at h
  have hl := congrArg List.length h
  rw [List.length_append, List.length_append, sumBytes_length, sumBytes_length] at hl
  have hh := List.append_inj h (by omega)
  rw [← hh.1] at hh
  exact hne (sumBytes_inj (crc_lt _) (crc_lt _) hh.2).symm
/-- bytes with another sum -/
theorem sum_other {l t : List UInt8} (hlen : t.length = 4) (hne : t ≠ sumBytes (crc l)) : ∀ body, l ++ t ≠ sealed body := by
  intro body h
  unfold sealed at h
  have hl := congrArg List.length h
  rw [List.length_append, List.length_append, sumBytes_length] at hl
  have hh := List.append_inj h (by omega)
  rw [← hh.1] at hh
  exact hne hh.2
/-- either what was sealed, or not sealed at all -/
def Fair (l x : List UInt8) : Prop := x.length = l.length + 4 ∧ (x = sealed l ∨ ((∀ body, x ≠ sealed body) ∧ x ≠ sealed l))
theorem fair_same (l : List UInt8) : Fair l (sealed l) := ⟨by unfold sealed; rw [List.length_append, sumBytes_length], .inl rfl⟩
theorem fair_body {l m : List UInt8} (hlen : m.length = l.length) (h : m = l ∨ crc m ≠ crc l) : Fair l (m ++ sumBytes (crc l)) := by
  rcases h with rfl | h
  · exact fair_same m
  · exact ⟨by rw [List.length_append, sumBytes_length, hlen], .inr ⟨body_other hlen h, body_other hlen h l⟩⟩
theorem fair_sum {l t : List UInt8} (hlen : t.length = 4) : Fair l (l ++ t) := by
  by_cases h : t = sumBytes (crc l)
  · subst h; exact fair_same l
  · exact ⟨by rw [List.length_append, hlen], .inr ⟨sum_other hlen h, sum_other hlen h l⟩⟩
theorem split_at {l : List UInt8} {k : Nat} (h : k < l.length) : l = l.take k ++ l[k] :: l.drop (k + 1) := by
  rw [← List.drop_eq_getElem_cons h, List.take_append_drop]
theorem set_split {l : List UInt8} {k : Nat} (h : k < l.length) (u : UInt8) : l.set k u = l.take k ++ u :: l.drop (k + 1) := by
  rw [List.set_eq_take_append_cons_drop, if_pos h]
/-- one byte of the body that is another one -/
theorem fair_turned {l : List UInt8} {k : Nat} (hk : k < l.length) (u : UInt8) : Fair l ((sealed l).set k u) := by
  unfold sealed
  rw [List.set_append_left _ _ hk]
  refine fair_body (by rw [List.length_set]) ?_
  by_cases hu : u = l[k]
  · exact .inl (by rw [hu, List.set_getElem_self])
  · refine .inr fun h => hu ?_
    rw [set_split hk] at h
    conv at h => rhs; rw [split_at hk]
    exact crc_turned h
/-- two neighbours of the body that change places -/
theorem fair_swapped {l : List UInt8} {k : Nat} (hk : k + 1 < l.length) : Fair l (((sealed l).set k l[k + 1]).set (k + 1) l[k]) := by
  unfold sealed
  rw [List.set_append_left _ _ (by omega), List.set_append_left _ _ (by rw [List.length_set]; omega)]
  refine fair_body (by rw [List.length_set, List.length_set]) ?_
  have e : (l.set k l[k + 1]).set (k + 1) l[k] = l.take k ++ l[k + 1] :: l[k] :: l.drop (k + 2) := by
    have hP : (l.take k).length = k := by rw [List.length_take]; omega
    generalize l[k + 1] = b
    generalize l[k] = a
    rw [set_split (show k < l.length by omega) b, List.set_append_right _ _ (by omega), hP, show k + 1 - k = 1 by omega, List.drop_eq_getElem_cons hk]
    rfl
  have e2 : l = l.take k ++ l[k] :: l[k + 1] :: l.drop (k + 2) := by
    conv => lhs; rw [split_at (show k < l.length by omega), List.drop_eq_getElem_cons hk]
  rw [e]
  by_cases hu : l[k] = l[k + 1]
  · refine .inl ?_
    conv => rhs; rw [e2]
    rw [hu]
  · refine .inr fun h => hu ?_
    conv at h => rhs; rw [e2]
    exact (crc_swapped h).symm
end Go.Proofs.Ytebpdlggkncliaa

/-
  Bytes in a block of the call's own, that are written in place.
-/
namespace Go.Proofs.Ytebpdlggkncliaa
open Go.RowKit
open Go.Lib (byteCells byteCells_length byteCells_append uvarint)

/-- Block g is the call's own, has c places, and begins with the bytes l. -/
def Mine (w : World) (g : Nat) (e : TypeId) (c : Nat) (l : List UInt8) : Prop :=
  ∃ cur : Array Value, w.heap[g]? = some (.cells cur e (0, 0)) ∧ cur.size = c ∧ l.length ≤ c ∧ cur.toList.take l.length = byteCells l
theorem own_mine {w : World} {base : Nat} {e : TypeId} {v : Value} {l : List UInt8} (h : Own w base e v l) (hl : 0 < l.length) :
    ∃ g c, v = .slice (some ⟨g, 0, none⟩) l.length c ∧ base ≤ g ∧ g < w.heap.size ∧ Mine w g e c l := by
  unfold Own at h
  rcases h.2 with ⟨_, hn⟩ | ⟨g, cap, cur, rfl, hb, hg, hnc, _, hcs, htake⟩
  · omega
  · exact ⟨g, cap, rfl, hb, (Array.getElem?_eq_some_iff.1 hg).1, cur, hg, by rw [hcs, Nat.mul_one], hnc, by rw [Nat.mul_one] at htake; exact htake⟩
theorem own_mine_at {w : World} {base : Nat} {e : TypeId} {v : Value} {l : List UInt8} {n : Nat} (h : Own w base e v l) (hn : l.length = n) (hl : 0 < n) :
    ∃ g c, v = .slice (some ⟨g, 0, none⟩) n c ∧ base ≤ g ∧ g < w.heap.size ∧ Mine w g e c l := by
  subst hn
  exact own_mine h hl
theorem Mine.cell {w : World} {g : Nat} {e : TypeId} {c : Nat} {l : List UInt8} (h : Mine w g e c l) {k : Nat} {u : UInt8} (hk : l[k]? = some u) : w.cell? ⟨g, k, none⟩ = some (.int .u8 (u.toNat : Int)) := by
  obtain ⟨cur, hg, hs, hc, ht⟩ := h
  rw [cell_of_row w g k cur e (0, 0) hg]
  have hkl := (List.getElem?_eq_some_iff.1 hk).1
  have h1 : (cur.toList.take l.length)[k]? = some (.int .u8 (u.toNat : Int)) := by rw [ht, byteCells, List.getElem?_map, hk]; rfl
  rw [List.getElem?_take_of_lt hkl, Array.getElem?_toList] at h1
  exact h1
theorem Mine.free {w : World} {g : Nat} {e : TypeId} {c : Nat} {l : List UInt8} (h : Mine w g e c l) (k : Nat) : w.frozen? ⟨g, k, none⟩ = false := by
  obtain ⟨cur, hg, _⟩ := h
  simp [World.frozen?, hg]
theorem Mine.is_ {w : World} {g : Nat} {e : TypeId} {c : Nat} {l : List UInt8} (h : Mine w g e c l) {n : Nat} (hn : l.length = n) : IsB w (some ⟨g, 0, none⟩) n c l := by
  refine ⟨hn, ?_, (fun h => by cases h), .inr ⟨g, 0, rfl, fun j u hj => by rw [Nat.zero_add]; exact h.cell hj⟩⟩
  obtain ⟨_, _, _, hc, _⟩ := h
  omega
theorem Mine.below {w w' : World} {g : Nat} {e : TypeId} {c : Nat} {l : List UInt8} (h : Mine w g e c l) (hb : Below w.heap.size w w') : Mine w' g e c l := by
  obtain ⟨cur, hg, hr⟩ := h
  exact ⟨cur, (hb.block g (Array.getElem?_eq_some_iff.1 hg).1).trans hg, hr⟩
theorem Mine.drew {w : World} {g : Nat} {e : TypeId} {c : Nat} {l : List UInt8} (h : Mine w g e c l) : Mine w.drew g e c l := h
theorem Mine.far {w : World} {g : Nat} {e : TypeId} {c : Nat} {l : List UInt8} (h : Mine w g e c l) {p : Addr} (hp : g ≠ p.block) (u : Value) : Mine (w.setCell p u) g e c l := by
  obtain ⟨cur, hg, hr⟩ := h
  exact ⟨cur, (Below.heap_setCell w p u g hp).trans hg, hr⟩
theorem Mine.put {w : World} {g : Nat} {e : TypeId} {c : Nat} {l : List UInt8} (h : Mine w g e c l) (k : Nat) (u : UInt8) (q : Int) (hq : (u.toNat : Int) = q) : Mine (w.setCell ⟨g, k, none⟩ (.int .u8 q)) g e c (l.set k u) := by
  subst hq
  obtain ⟨cur, hg, hs, hc, ht⟩ := h
  refine ⟨cur.setIfInBounds k (.int .u8 (u.toNat : Int)), ?_, by rw [Array.size_setIfInBounds, hs], by rw [List.length_set]; exact hc, ?_⟩
  · simp [World.setCell, Array.getElem?_modify, hg]
  · rw [List.length_set, Array.toList_setIfInBounds, List.take_set, ht, byteCells, byteCells, List.map_set]
theorem below_put {B : Nat} {w w' : World} (h : Below B w w') {p : Addr} (hp : B ≤ p.block) (u : Value) : Below B w (w'.setCell p u) := h.setCell hp u
end Go.Proofs.Ytebpdlggkncliaa

/-
  The definition's calls: bytes behind bytes; numbers, laid out.
-/
set_option linter.unusedSimpArgs false
namespace Go.Proofs.Ytebpdlggkncliaa
open Go.RowKit
open Go.Lib (byteCells byteCells_length byteCells_append uvarint uvarint_small uvarint_big tailV)
set_option linter.unusedVariables false

theorem IsB.from_ {w : World} {A : Option Addr} {n c : Nat} {l : List UInt8} (h : IsB w A n c l) (hp : 0 < (byteCells l).length) : ∃ ad, A = some ad ∧ ∀ j v, (byteCells l)[j]? = some v → w.cell? (ad.add j) = some v := by
  rcases h.src with rfl | ⟨b, o, hA, hc⟩
  · simp [byteCells] at hp
  · refine ⟨_, hA, fun j v hj => ?_⟩
    rw [byteCells, List.getElem?_map] at hj
    obtain ⟨x, hx, rfl⟩ := Option.map_eq_some_iff.1 hj
    rw [Addr.add_lit]
    exact hc j x hx
theorem sizeByte : ∀ w, (Go.sizeOf 5).run Try.prog w = .ok 1 w := fun w => by kernel_rfl
theorem sizeByte' : (Try.prog.info? 5).map (·.size) = some 1 := by kernel_rfl

theorem splice_two {α : Type} (Z X1 X2 : List α) (n m : Nat) (h1 : X1.length = n) (h2 : X2.length = m) (hZ : Z.length = n + m) : splice (splice Z 0 X1) n X2 = X1 ++ X2 := by
  subst h1; subst h2
  unfold splice
  have e1 : Z.take 0 ++ (X1 ++ Z.drop (0 + X1.length)) = X1 ++ Z.drop X1.length := by simp
  rw [e1]
  have e2 : (X1 ++ Z.drop X1.length).take X1.length = X1 := by simp
  have e3 : (X1 ++ Z.drop X1.length).drop (X1.length + X2.length) = [] := by
    apply List.drop_eq_nil_of_le; simp; omega
  rw [e2, e3, List.append_nil]

set_option maxRecDepth 100000 in
set_option maxHeartbeats 400000 in
theorem after_any (A : Option Addr) (n c : Nat) (la : List UInt8) (B : Option Addr) (m d : Nat) (lb : List UInt8) (w : World) (hA : IsB w A n c la) (hB : IsB w B m d lb) (hn : n ≤ 35184372088832) (hm : m ≤ 35184372088832) :
    Calls Try.prog 107 #[.slice A n c, .slice B m d] w fun e w' =>
      ∃ g k, e = .returned (.slice (some ⟨g, 0, none⟩) (n + m) k) ∧ w.heap.size ≤ g ∧ g < w'.heap.size ∧ Mine w' g 5 k (la ++ lb) ∧ Below w.heap.size w w' := by
  obtain ⟨i0, hi, hz0, hz1, hz2⟩ := info_parts infoByte
  obtain ⟨Z, hZ⟩ : ∃ Z : List Value, madeCells #[.int .u8 0] (n + m) = Z.toArray := ⟨_, (Array.toArray_toList).symm⟩
  have hZl : Z.length = n + m := by
    have := congrArg Array.size hZ
    rw [size_madeCells, List.size_toArray] at this
    exact this.symm
  have hmk : ∀ w, (Instr.makeSlice 26 (.int .i64 ((n : Int) + (m : Int))) (.int .i64 ((n : Int) + (m : Int)))).run Try.prog w = .ok (.slice (some ⟨w.heap.size, 0, none⟩) (n + m) (n + m)) (w.alloc (.cells Z.toArray 5)) := fun w => by
    have h := run_make_row (P := Try.prog) 26 5 i0 (.int .u8 0) Try.underlying26 hi hz0 hz1 rfl .i64 .i64 (n + m) (by rw [hz2]; omega) (by omega) w
    rw [hZ] at h
    rw [← h]; simp
  have hcut : ∀ g w, (Instr.slice 26 (.slice (some ⟨g, 0, none⟩) (n + m) (n + m)) (some (.int .i64 (n : Int))) none none).run Try.prog w = .ok (tailV g (n + m) n) w := fun g w => Lib.run_slice_tailV w _ _ Try.underlying26 sizeByte g (n + m) n (by omega)
  have hl1 := hA.len
  have hl2 := hB.len
  obtain ⟨X1, hX1⟩ : ∃ X1, X1 = byteCells la := ⟨_, rfl⟩
  obtain ⟨X2, hX2⟩ : ∃ X2, X2 = byteCells lb := ⟨_, rfl⟩
  have hx1 : X1.length = n := by rw [hX1, byteCells_length, hl1]
  have hx2 : X2.length = m := by rw [hX2, byteCells_length, hl2]
  have hF1 : 0 < X1.length → ∃ ad, A = some ad ∧ ∀ j v, X1[j]? = some v → w.cell? (ad.add j) = some v := by subst hX1; exact hA.from_
  have hF2 : 0 < X2.length → ∃ ad, B = some ad ∧ ∀ j v, X2[j]? = some v → w.cell? (ad.add j) = some v := by subst hX2; exact hB.from_
  have h1X1 : ∀ v ∈ X1, v.oneCell' = true := by subst hX1; exact byteCells_one _
  have h1X2 : ∀ v ∈ X2, v.oneCell' = true := by subst hX2; exact byteCells_one _
  have H1 := Lib.hid hX1
  have H2 := Lib.hid hX2
  have L1 := Lib.hid hx1
  have L2 := Lib.hid hx2
  have L3 := Lib.hid hl1
  have L4 := Lib.hid hl2
  have ZL := Lib.hid hZl
  have hbw : Below w.heap.size w (w.alloc (.cells Z.toArray 5)) := (Below.refl _ _).alloc (Nat.le_refl _) _
  clear hX1 hX2 hx1 hx2 hl1 hl2 hZ hZl
  go_enter Try.func107, Try.ntmps107
  go_wp2_with (with_reducible refine wpList_copy_splice rfl (.tmp 12) (.tmp 13) 26 26 rfl 5 Try.underlying26 sizeByte' (some ⟨w.heap.size, 0, none⟩) A (n + m) (n + m) n c rfl rfl w.heap.size 0 Z 5 ?_ X1 ?_ ?_ ?_ h1X1 w.heap.size w hbw (Nat.le_refl _) ?_)
  case refine_1 => exact heap_alloc_new _ _
  case refine_2 => exact L1.out.trans (Nat.min_eq_left (by omega)).symm
  case refine_3 =>
    intro hp
    obtain ⟨ad, e1, e2⟩ := hF1 hp
    exact ⟨ad, e1, fun j v hj => cell_below hbw _ _ (e2 j v hj)⟩
  case refine_4 => have := L1.out; have := ZL.out; omega
  intro w2 HG2 hb2
  clear hF1 hbw hmk
  have HP2 : Hid (0 < X2.length → some (if n + m = n then (⟨w.heap.size, 0, none⟩ : Addr) else ⟨w.heap.size, n, none⟩) = some ⟨w.heap.size, n, none⟩ ∧ ∃ ad, B = some ad ∧ ∀ j v, X2[j]? = some v → w2.cell? (ad.add j) = some v) := by
    intro hp
    have hm0 : ¬ n + m = n := by have := L2.out; omega
    obtain ⟨ad, e1, e2⟩ := hF2 hp
    exact ⟨by rw [if_neg hm0], ad, e1, fun j v hj => cell_below hb2 _ _ (e2 j v hj)⟩
  have HL2 : Hid (n + X2.length ≤ (splice Z 0 X1).length) := by
    have h1 := L1.out
    have h2 := L2.out
    have h3 := ZL.out
    show n + X2.length ≤ (splice Z 0 X1).length
    rw [length_splice _ _ _ (by omega)]; omega
  have HN2 : Hid (X2.length = Nat.min m (n + m - n)) := by
    have h2 := L2.out
    show X2.length = _
    rw [h2, Nat.add_sub_cancel_left]; exact (Nat.min_self m).symm
  clear hF2
  go_wp2_with (refine wpList_copy_splice rfl (.tmp 18) (.tmp 19) 26 26 rfl 5 Try.underlying26 sizeByte' (some (if n + m = n then ⟨w.heap.size, 0, none⟩ else ⟨w.heap.size, n, none⟩)) B (n + m - n) (n + m - n) m d (by rfl) rfl w.heap.size n (splice Z 0 X1) 5 HG2.out X2 HN2.out HP2.out HL2.out h1X2 w.heap.size w hb2 (Nat.le_refl _) ?_)
  intro w3 HG3 hb3
  clear HG2 HP2 HL2 HN2 hb2
  go_wp2_with fail
  go_ret
  dsimp only [Array.getD]
  refine ⟨w.heap.size, n + m, rfl, Nat.le_refl _, ?_, ⟨(X1 ++ X2).toArray, ?_, ?_, ?_, ?_⟩, hb3⟩
  · exact (Array.getElem?_eq_some_iff.1 HG3.out).1
  · rw [HG3.out, splice_two Z X1 X2 n m L1.out L2.out ZL.out]
  · rw [List.size_toArray, List.length_append, L1.out, L2.out]
  · rw [List.length_append, L3.out, L4.out]; omega
  · rw [List.length_append, L3.out, L4.out, List.toList_toArray, byteCells_append, H1.out, H2.out, List.take_of_length_le]
    rw [← byteCells_append, byteCells_length, List.length_append, L3.out, L4.out]; omega
end Go.Proofs.Ytebpdlggkncliaa

/-
  The definition's numbers: Varint, weighs.
-/
set_option linter.unusedSimpArgs false
namespace Go.Proofs.Ytebpdlggkncliaa
open Go.RowKit
open Go.Lib (byteCells byteCells_length byteCells_append uvarint uvarint_small uvarint_big)
set_option linter.unusedVariables false

theorem own_put {w : World} {base : Nat} {e : TypeId} {g n c : Nat} {l : List UInt8} (h : Own w base e (.slice (some ⟨g, 0, none⟩) n c) l) (k : Nat) (u : UInt8) (q : Int) (hq : (u.toNat : Int) = q) :
    Own (w.setCell ⟨g, k, none⟩ (.int .u8 q)) base e (.slice (some ⟨g, 0, none⟩) n c) (l.set k u) := by
  subst hq
  unfold Own at h ⊢
  refine ⟨by rw [byteCells_length, List.length_set, Nat.mul_one], ?_⟩
  rcases h.2 with ⟨hn, _⟩ | ⟨g', cap, cur, hv, hbg, hg, hnc, hcm, hcs, htake⟩
  · cases hn
  · simp only [Value.slice.injEq, Option.some.injEq, Addr.mk.injEq, and_true] at hv
    obtain ⟨rfl, rfl, rfl⟩ := hv
    refine .inr ⟨g, c, cur.setIfInBounds k (.int .u8 (u.toNat : Int)), by rw [List.length_set], hbg, ?_, by rw [List.length_set]; exact hnc, hcm, by rw [Array.size_setIfInBounds, hcs], ?_⟩
    · simp [World.setCell, Array.getElem?_modify, hg]
    · rw [List.length_set, Array.toList_setIfInBounds, List.take_set, htake, byteCells, byteCells, List.map_set]
theorem own_one (w : World) (e : TypeId) (u : UInt8) (q : Int) (hq : (u.toNat : Int) = q) : Own (w.alloc (.cells #[.int .u8 q] e)) w.heap.size e (.slice (some ⟨w.heap.size, 0, none⟩) 1 1) [u] := by
  subst hq
  exact ⟨rfl, .inr ⟨w.heap.size, 1, _, rfl, Nat.le_refl _, heap_alloc_new _ _, Nat.le_refl _, by decide, rfl, rfl⟩⟩
theorem own_form {w : World} {base : Nat} {e : TypeId} {v : Value} {l : List UInt8} {n : Nat} (h : Own w base e v l) (hn : l.length = n) (hl : 0 < n) :
    ∃ g c, v = .slice (some ⟨g, 0, none⟩) n c ∧ base ≤ g ∧ g < w.heap.size ∧ Mine w g e c l ∧ Own w base e (.slice (some ⟨g, 0, none⟩) n c) l := by
  obtain ⟨g, c, rfl, hb, hg, hM⟩ := own_mine_at h hn hl
  exact ⟨g, c, rfl, hb, hg, hM, h⟩
theorem byte128 (m : Nat) : ((m % 128).toUInt8).toNat = m % 128 := byte_toNat (by omega)
theorem byte_low (m : Nat) : (((m % 128).toUInt8).toNat : Int) = IntKind.u8.wrap ((m : Int) % 128) := by
  rw [byte128, IntKind.wrap_u8']; omega
theorem byte_high (m : Nat) : (((m % 128 + 128).toUInt8).toNat : Int) = IntKind.u8.wrap ((((m % 128).toUInt8).toNat : Int) + 128) := by
  rw [byte128, IntKind.wrap_u8', byteVal]; omega

theorem new_byte' {u : UInt8} {q : Int} (w : World) (s : Nat) (hs : w.heap.size = s) (t : TypeId) (h : (u.toNat : Int) = q) :
    ∀ j u', [u][j]? = some u' → (w.alloc (.cells #[.int .u8 q] t)).cell? ((⟨s, 0, none⟩ : Addr).add j) = some (.int .u8 (u'.toNat : Int)) := by
  subst hs
  exact new_byte w t h
theorem size_setCell (w : World) (p : Addr) (v : Value) : (w.setCell p v).heap.size = w.heap.size := by simp [World.setCell]
theorem varint_step {pre : List UInt8} {x m k : Nat} {q : UInt8} (h : uvarint x = pre ++ uvarint m) (hm : 128 ≤ m) (hk : pre.length = k) :
    uvarint x = (pre ++ [(m % 128 + 128).toUInt8]) ++ uvarint (m / 128) ∧ (pre ++ [q]).set k ((m % 128 + 128).toUInt8) = pre ++ [(m % 128 + 128).toUInt8] := by
  refine ⟨by rw [h, uvarint_big hm, List.append_assoc]; rfl, ?_⟩
  subst hk
  simp

set_option maxRecDepth 100000 in
set_option maxHeartbeats 400000 in
theorem varint_any (x : Nat) (w : World) (hx : x < 18446744073709551616) :
    Calls Try.prog 97 #[.int .u64 (x : Int)] w fun e w' =>
      ∃ A m c, e = .returned (.slice A m c) ∧ IsB w' A m c (uvarint x) ∧ Below w.heap.size w w' := by
  obtain ⟨i0, hi, hz0, hz1, hz2⟩ := info_parts infoByte
  go_enter Try.func97, Try.ntmps97
  go_wp2_with fail
  go_loopw [3, 4] (fun o r wr => ∃ (m : Nat) (pre : List UInt8), r = .int .u64 ((m : Int) / 128) ∧ m < 18446744073709551616 ∧ Hid (uvarint x = pre ++ uvarint m) ∧ Own wr w.heap.size 5 o (pre ++ [(m % 128).toUInt8]) ∧ Below w.heap.size w wr)
    (fun _ r _ => (intOf r).toNat)
  case atStart => exact ⟨x, [], rfl, hx, rfl, own_one w 5 _ _ (by rw [byte128]; omega), (Below.refl _ _).alloc (Nat.le_refl _) _⟩
  case round =>
    obtain ⟨m, pre, rfl, hm, hL, hF, hB⟩ := hrel
    have hlen : pre.length + 1 ≤ 10 := by
      have e := congrArg List.length hL.out
      rw [List.length_append] at e
      have h1 := Lib.uvarint_length64 hx
      have h2 := Lib.uvarint_pos m
      omega
    obtain ⟨k, hk⟩ : ∃ k, pre.length = k := ⟨_, rfl⟩
    have HK := Lib.hid hk
    have hlk : (pre ++ [(m % 128).toUInt8]).length = k + 1 := by rw [List.length_append, hk]; rfl
    obtain ⟨g, c, rfl, hbg, hgs, hM, hO⟩ := own_form hF hlk (by omega)
    rw [hk] at hlen
    have HLK := Lib.hid hlk
    have hqk : (pre ++ [(m % 128).toUInt8])[k]? = some ((m % 128).toUInt8) := by rw [← hk]; simp
    have hB1 := hB.size
    by_cases hge : 128 ≤ m
    · have f1 := hM.cell hqk
      have f2 := hM.free k
      clear hqk hlk hk hF
      obtain ⟨q, hq⟩ : ∃ q : UInt8, q = (m % 128).toUInt8 := ⟨_, rfl⟩
      have HQ := Lib.hid hq
      rw [← hq] at f1 hO hM
      clear hq
      have hq2 : (((m % 128 + 128).toUInt8).toNat : Int) = ((q.toNat : Int) + 128) % 256 := by rw [HQ.out, byte128, byteVal]; omega
      have hq3 : (((m / 128 % 128).toUInt8).toNat : Int) = (m : Int) / 128 % 128 := by rw [byte128]; omega
      have hO2 := own_put hO k _ _ hq2
      have hB2 := hB.setCell (p := ⟨g, k, none⟩) hbg (.int .u8 (((q.toNat : Int) + 128) % 256))
      have HS := Lib.hid (varint_step (q := q) hL.out hge HK.out)
      rw [HS.out.2] at hO2
      obtain ⟨q2, hd2⟩ : ∃ u : UInt8, u = (m % 128 + 128).toUInt8 := ⟨_, rfl⟩
      obtain ⟨q3, hd3⟩ : ∃ u : UInt8, u = (m / 128 % 128).toUInt8 := ⟨_, rfl⟩
      rw [← hd2] at hO2 hq2 HS
      rw [← hd3] at hq3
      have HD3 := Lib.hid hd3
      have HQ2 := Lib.hid hq2
      have HQ3 := Lib.hid hq3
      clear hq2 hq3 hO hM hd2 hd3
      obtain ⟨N, hN⟩ : ∃ N, N = pre ++ [q2] := ⟨_, rfl⟩
      have hNl : N.length = k + 1 := by rw [hN, List.length_append, HK.out]; rfl
      rw [← hN] at hO2 HS
      have HN := Lib.hid hN
      clear hN
      go_wp2_with (at_builtin; refine wpList_put _ rfl _ _ 26 rfl 5 i0 Try.underlying26 hi hz0 hz1 hz2 w.heap.size _ N rfl (.inl (hO2.below ((Below.refl _ _).alloc (Nat.le_refl _) _))) _ 1 1 [q3] rfl rfl (by decide) ?c1 ?c2 ?c3 ?_)
      case c1 => exact new_byte' _ _ (size_setCell _ _ _) _ HQ3.out
      case c2 => omega
      case c3 => simp [size_setCell]; omega
      intro v' w' hown hb
      go_wp2
      go_roundw
      case rel => exact ⟨m / 128, N, by simp, by omega, HS.out.1, by rw [← HD3.out]; exact hown, (hB2.alloc (by rw [size_setCell]; exact hB1) _).trans hb⟩
      case measure => simp [intOf]; omega
    · have hlow : pre ++ [(m % 128).toUInt8] = uvarint x := by
        rw [hL.out, uvarint_small (by omega)]
        congr 2
        have : m % 128 = m := Nat.mod_eq_of_lt (by omega)
        rw [this]
      have hI : IsB wr (some ⟨g, 0, none⟩) (k + 1) c (uvarint x) := by rw [← hlow]; exact hM.is_ hlk
      have hz : (m : Int) / 128 = 0 := by omega
      clear hlow hqk hlk hk hF hO hM HLK HK
      go_wp2_with fail
      go_ret
      exact ⟨_, _, _, rfl, hI, hB⟩
end Go.Proofs.Ytebpdlggkncliaa

/-
  GetBlob: the string at a place, of at most so many bytes.
-/
set_option linter.unusedSimpArgs false
namespace Go.Proofs.Ytebpdlggkncliaa
open Go.RowKit
open Go.Lib (byteCells byteCells_length byteCells_append uvarint)

theorem scan_le : ∀ (f j acc : Nat) (l : List UInt8), (scan f j acc l).2.2 = 0 → (scan f j acc l).2.1 ≤ j + l.length
  | 0, _, _, _, h => by simp [scan] at h
  | f + 1, j, acc, [], h => by simp [scan] at h
  | f + 1, j, acc, x :: r, h => by
    rw [scan] at h ⊢
    split
    · rename_i hm
      rw [if_pos hm] at h
      split
      · simp
      · rename_i hx
        rw [if_neg hx] at h
        have := scan_le f (j + 1) _ r h
        simp only [List.length_cons]
        omega
    · rename_i hm
      rw [if_neg hm] at h
      simp at h
theorem getU_le (l : List UInt8) (h : (getU l).2.2 = 0) : (getU l).2.1 ≤ l.length := by
  have := scan_le 10 0 0 l h
  rw [Nat.zero_add] at this
  exact this
theorem getU_err (l : List UInt8) : (getU l).2.2 = 0 ∨ ((getU l).1 = 0 ∧ (getU l).2.1 = 0) := scan_bits 10 0 0 l

/-- the string at a place: its bytes, the place behind it, the error -/
def blobOf (l : List UInt8) (k : Nat) (most : Int) : List UInt8 × Nat × Nat :=
  if (getU (l.drop k)).2.2 ≠ 0 then ([], 0, (getU (l.drop k)).2.2)
  else if most < 0 ∨ most < ((getU (l.drop k)).1 : Int) then ([], 0, 3)
  else if l.length - (k + (getU (l.drop k)).2.1) < (getU (l.drop k)).1 then ([], 0, 11)
  else ((l.drop (k + (getU (l.drop k)).2.1)).take (getU (l.drop k)).1, k + (getU (l.drop k)).2.1 + (getU (l.drop k)).1, 0)

/-- a piece of a slice of bytes -/
theorem IsB.cut {w : World} {A : Option Addr} {n c : Nat} {l : List UInt8} (h : IsB w A n c l) {i m : Nat} (hi : i + m ≤ n) :
    IsB w (if c = i then A else A.map (·.add i)) m (c - i) ((l.drop i).take m) := by
  obtain ⟨hl, hc, hnone, hsrc⟩ := h
  refine ⟨by rw [List.length_take, List.length_drop]; omega, by omega, fun e => ?_, ?_⟩
  · by_cases hci : c = i
    · omega
    · rw [if_neg hci] at e
      cases A with
      | none => have := hnone rfl; omega
      | some a => simp at e
  · rcases Nat.eq_zero_or_pos m with h0 | h0
    · subst h0; exact .inl (by simp)
    · rw [if_neg (by omega)]
      rcases hsrc with rfl | ⟨b, o, rfl, hcell⟩
      · simp at hl; omega
      · refine .inr ⟨b, o + i, by simp [Addr.add_lit], fun j u hj => ?_⟩
        have hj' : l[i + j]? = some u := by
          have hjm : j < m := by
            have h1 := (List.getElem?_eq_some_iff.1 hj).1
            rw [List.length_take] at h1
            omega
          rw [List.getElem?_take_of_lt hjm, List.getElem?_drop] at hj
          exact hj
        rw [Nat.add_assoc]
        exact hcell (i + j) u hj'
theorem run_cut (w : World) (A : Option Addr) (n c i j : Nat) (hij : i ≤ j) (hj : j ≤ c) :
    (Instr.slice 26 (.slice A n c) (some (.int .i64 (i : Int))) (some (.int .i64 (j : Int))) none).run Try.prog w = .ok (.slice (if c = i then A else A.map (·.add i)) (j - i) (c - i)) w := by
  obtain ⟨i0, hi, hz0, hz1, hz2⟩ := info_parts infoByte
  have ht : Try.prog.underlying 26 = some (.slice (Try.prog.elem 26)) := by simp [Program.elem, Try.underlying26]
  have he : Try.prog.elem 26 = 5 := by simp [Program.elem, Try.underlying26]
  rw [run_slice_lh w 26 A n c ht .i64 .i64 (i : Int) (j : Int) (by omega) (by omega) (by omega), he]
  simp [sizeOf, typeInfo, hi, hz1, Result.andThen, sliced]

end Go.Proofs.Ytebpdlggkncliaa

/-
  The definition's numbers: weighs.
-/
set_option linter.unusedSimpArgs false
namespace Go.Proofs.Ytebpdlggkncliaa
open Go.RowKit
open Go.Lib (byteCells byteCells_length byteCells_append uvarint uvarint_small uvarint_big)
set_option linter.unusedVariables false

theorem run_from (w : World) (A : Option Addr) (n c i : Nat) (hi : i ≤ n) :
    (Instr.slice 26 (.slice A n c) (some (.int .i64 (i : Int))) none none).run Try.prog w = .ok (.slice (if c = i then A else A.map (·.add i)) (n - i) (c - i)) w := by
  obtain ⟨i0, hi0, hz0, hz1, hz2⟩ := info_parts infoByte
  have ht : Try.prog.underlying 26 = some (.slice (Try.prog.elem 26)) := by simp [Program.elem, Try.underlying26]
  have he : Try.prog.elem 26 = 5 := by simp [Program.elem, Try.underlying26]
  rw [run_slice_l w 26 A n c ht .i64 (i : Int) (by omega) (by omega), he]
  simp [sizeOf, typeInfo, hi0, hz1, Result.andThen, sliced]

def weigh : List UInt8 → Nat
  | [] => 0
  | x :: r => (x.toNat % 128 + 128 * weigh r) % 18446744073709551616

set_option maxRecDepth 100000 in
set_option maxHeartbeats 400000 in
theorem weighs_nil (A : Option Addr) (c : Nat) (w : World) :
    Calls Try.prog 133 #[.slice A 0 c] w fun e w' => e = .returned (.int .u64 0) ∧ Below w.heap.size w w' := by
  go_enter Try.func133, Try.ntmps133
  go_wp2_with fail
  go_ret
  exact ⟨rfl, Below.refl _ _⟩

set_option maxRecDepth 100000 in
set_option maxHeartbeats 400000 in
theorem weighs_any : ∀ (l : List UInt8) (A : Option Addr) (n c : Nat) (w : World), IsB w A n c l → n ≤ 35184372088832 →
    Calls Try.prog 133 #[.slice A n c] w fun e w' => e = .returned (.int .u64 (weigh l : Int)) ∧ Below w.heap.size w w'
  | [], A, n, c, w, h, hn => by
    obtain rfl : n = 0 := h.len.symm
    exact weighs_nil A c w
  | x :: r, A, n, c, w, h, hn => by
    obtain ⟨m, rfl⟩ : ∃ m, n = m + 1 := ⟨r.length, by rw [← h.len]; rfl⟩
    have hx := x.toNat_lt
    have ih := weighs_any r
    obtain ⟨b, o, rfl, hcell⟩ : ∃ b o, A = some ⟨b, o, none⟩ ∧ ∀ j u, (x :: r)[j]? = some u → w.cell? ⟨b, o + j, none⟩ = some (.int .u8 (u.toNat : Int)) := by
      rcases h.src with h0 | h0
      · cases h0
      · exact h0
    have hc0 : w.cell? ⟨b, o, none⟩ = some (.int .u8 (x.toNat : Int)) := hcell 0 x rfl
    have hcut := h.cut (i := 1) (m := m) (by omega)
    have hsl : ∀ w, (Instr.slice 26 (.slice (some ⟨b, o, none⟩) (m + 1) c) (some (.int .i64 1)) none none).run Try.prog w = .ok (.slice (if c = 1 then some ⟨b, o, none⟩ else (some (⟨b, o, none⟩ : Addr)).map (·.add 1)) m (c - 1)) w := fun w => run_from w (some ⟨b, o, none⟩) (m + 1) c 1 (by omega)
    have hrl : r.length = m := by have := h.len; simpa using this
    rw [show (List.drop 1 (x :: r)) = r by rfl, List.take_of_length_le (by omega)] at hcut
    generalize (if c = 1 then some (⟨b, o, none⟩ : Addr) else (some (⟨b, o, none⟩ : Addr)).map (·.add 1)) = A2 at hcut hsl
    clear hcell hrl
    have htm : (x.toNat : Int).tmod 128 = (x.toNat : Int) % 128 := Int.tmod_eq_emod_of_nonneg (by omega)
    have hx7 : IntKind.u64.wrap ((x.toNat : Int) % 128) = (x.toNat : Int) % 128 := by rw [IntKind.wrap_u64]; omega
    have hw2 : IntKind.u64.wrap ((x.toNat : Int) % 128 + IntKind.u64.wrap (128 * (weigh r : Int))) = (weigh (x :: r) : Int) := by
      rw [IntKind.wrap_u64, IntKind.wrap_u64, weigh]; omega
    generalize weigh (x :: r) = W at hw2 ⊢
    generalize weigh r = V at ih hw2
    go_enter Try.func133, Try.ntmps133
    go_wp2_with fail
    refine wp_region_held_drew (S := fun w' => w'.cell? ⟨b, o, none⟩ = some (.int .u8 (x.toNat : Int))) (by kernel_rfl) hc0 (fun hHeld => ?_)
    refine wpAnyH_take (i := 0) (v := ?_) rfl (by kernel_rfl) (by kernel_rfl) (by kernel_rfl) (fun _ _ _ h => h) (Or.inl ⟨by rfl, ?_⟩) hHeld ?_
    rotate_left
    · (intro w hSw; (try dsimp only at hSw); go_simp <;> rfl)
    simp only [Act.put, List.getElem_toArray, List.getElem_cons_zero, List.getElem_cons_succ, List.setIfInBounds_toArray, List.set_cons_zero, List.set_cons_succ]
    refine wpAnyH_take (i := 1) (v := ?_) rfl (by kernel_rfl) (by kernel_rfl) (by kernel_rfl) (fun _ _ _ h => h) (Or.inl ⟨by rfl, ?_⟩) hHeld ?_
    rotate_left
    · (intro w hSw; (try dsimp only at hSw); go_simp <;> rfl)
    simp only [Act.put, List.getElem_toArray, List.getElem_cons_zero, List.getElem_cons_succ, List.setIfInBounds_toArray, List.set_cons_zero, List.set_cons_succ]
    refine wpAnyH_take (i := 2) (v := ?_) rfl (by kernel_rfl) (by kernel_rfl) (by kernel_rfl) (fun _ _ _ h => h) (Or.inl ⟨by rfl, ?_⟩) hHeld ?_
    rotate_left
    · (intro w hSw; (try dsimp only at hSw); go_simp <;> rfl)
    simp only [Act.put, List.getElem_toArray, List.getElem_cons_zero, List.getElem_cons_succ, List.setIfInBounds_toArray, List.set_cons_zero, List.set_cons_succ]
    refine wpAnyH_take (i := 3) (v := ?_) rfl (by kernel_rfl) (by kernel_rfl) (by kernel_rfl) (fun _ _ _ h => h) (Or.inl ⟨by rfl, ?_⟩) hHeld ?_
    rotate_left
    · (intro w hSw; (try dsimp only at hSw); go_simp <;> rfl)
    simp only [Act.put, List.getElem_toArray, List.getElem_cons_zero, List.getElem_cons_succ, List.setIfInBounds_toArray, List.set_cons_zero, List.set_cons_succ]
    refine wpAnyH_take (i := 4) (v := ?_) rfl (by kernel_rfl) (by kernel_rfl) (by kernel_rfl) (fun _ _ _ h => h) (Or.inl ⟨by rfl, ?_⟩) hHeld ?_
    rotate_left
    · (intro w hSw; (try dsimp only at hSw); go_simp <;> rfl)
    simp only [Act.put, List.getElem_toArray, List.getElem_cons_zero, List.getElem_cons_succ, List.setIfInBounds_toArray, List.set_cons_zero, List.set_cons_succ]
    refine wpAnyH_take (i := 5) (v := ?_) rfl (by kernel_rfl) (by kernel_rfl) (by kernel_rfl) (fun _ _ _ h => h) (Or.inl ⟨by rfl, ?_⟩) hHeld ?_
    rotate_left
    · (intro w hSw; (try dsimp only at hSw); go_simp <;> rfl)
    simp only [Act.put, List.getElem_toArray, List.getElem_cons_zero, List.getElem_cons_succ, List.setIfInBounds_toArray, List.set_cons_zero, List.set_cons_succ]
    refine wpAnyH_take (i := 6) (v := ?_) rfl (by kernel_rfl) (by kernel_rfl) (by kernel_rfl) (fun _ _ _ h => h) (Or.inl ⟨by rfl, ?_⟩) hHeld ?_
    rotate_left
    · (intro w hSw; (try dsimp only at hSw); go_simp <;> rfl)
    simp only [Act.put, List.getElem_toArray, List.getElem_cons_zero, List.getElem_cons_succ, List.setIfInBounds_toArray, List.set_cons_zero, List.set_cons_succ]
    refine wpAnyH_ready (rs := [7]) (by kernel_rfl) (by simp) ?_
    refine AllReadyH.cons rfl (fun K hK => ?_) AllReadyH.nil
    go_simp
    refine (ih A2 m (c - 1) w.drew hcut.drew (by omega)).mono ?_
    rintro e w2 ⟨rfl, hb⟩
    dsimp only
    refine hK.out _ _ (cell_below hb _ _ hHeld) (fun hHeld => ?_)
    clear hK K
    try simp only [Act.put, List.getElem_toArray, List.getElem_cons_zero, List.getElem_cons_succ, List.setIfInBounds_toArray, List.set_cons_zero, List.set_cons_succ]
    refine wpAnyH_take (i := 8) (v := ?_) rfl (by kernel_rfl) (by kernel_rfl) (by kernel_rfl) (fun _ _ _ h => h) (Or.inl ⟨by rfl, ?_⟩) hHeld ?_
    rotate_left
    · (intro w hSw; (try dsimp only at hSw); go_simp <;> rfl)
    simp only [Act.put, List.getElem_toArray, List.getElem_cons_zero, List.getElem_cons_succ, List.setIfInBounds_toArray, List.set_cons_zero, List.set_cons_succ]
    refine wpAnyH_take (i := 9) (v := ?_) rfl (by kernel_rfl) (by kernel_rfl) (by kernel_rfl) (fun _ _ _ h => h) (Or.inl ⟨by rfl, ?_⟩) hHeld ?_
    rotate_left
    · (intro w hSw; (try dsimp only at hSw); go_simp <;> rfl)
    simp only [Act.put, List.getElem_toArray, List.getElem_cons_zero, List.getElem_cons_succ, List.setIfInBounds_toArray, List.set_cons_zero, List.set_cons_succ]
    refine wpAnyH_take (i := 10) (v := ?_) rfl (by kernel_rfl) (by kernel_rfl) (by kernel_rfl) (fun _ _ _ h => h) (Or.inl ⟨by rfl, ?_⟩) hHeld ?_
    rotate_left
    · (intro w hSw; (try dsimp only at hSw); go_simp <;> rfl)
    simp only [Act.put, List.getElem_toArray, List.getElem_cons_zero, List.getElem_cons_succ, List.setIfInBounds_toArray, List.set_cons_zero, List.set_cons_succ]
    refine wpAnyH_done (by kernel_rfl) ?_ _
    go_wp2_with fail
    go_ret
    exact ⟨rfl, ((Below.refl _ w).drew).trans hb⟩
end Go.Proofs.Ytebpdlggkncliaa

/-
  What the definition's GetUint looks for is what a scan from the left finds.
-/
namespace Go.Proofs.Ytebpdlggkncliaa
open Go.Lib (uvarint uvarint_small uvarint_big)

theorem scan_sound : ∀ (f j acc : Nat) (l : List UInt8) (v k : Nat), scan f j acc l = (v, k, 0) →
    ∃ t r, v = acc + t * 2 ^ (7 * j) ∧ l = uvarint t ++ r ∧ k = j + (uvarint t).length ∧ (0 < j → 0 < t)
  | 0, _, _, _, _, _, h => by simp [scan] at h
  | f + 1, j, acc, [], _, _, h => by simp [scan] at h
  | f + 1, j, acc, x :: r, v, k, h => by
    have hxl := x.toNat_lt
    rw [scan] at h
    split at h
    · rename_i hm
      split at h
      · rename_i hx
        simp only [Prod.mk.injEq, and_true] at h
        refine ⟨x.toNat, r, ?_, ?_, ?_, ?_⟩
        · rw [← h.1, Nat.mod_eq_of_lt hx]
        · rw [uvarint_small hx]; simp
        · rw [uvarint_small hx, ← h.2]; rfl
        · intro hj
          rcases Nat.eq_zero_or_pos x.toNat with h0 | h0
          · rw [h0] at hm
            simp [mayB] at hm
            omega
          · exact h0
      · rename_i hx
        obtain ⟨t, r', hv, hr, hk, ht⟩ := scan_sound f (j + 1) _ r v k h
        have ht0 := ht (Nat.succ_pos j)
        refine ⟨x.toNat % 128 + 128 * t, r', ?_, ?_, ?_, fun _ => by omega⟩
        · rw [hv, show 7 * (j + 1) = 7 * j + 7 by omega, Nat.pow_add, Nat.add_mul, Nat.add_assoc]
          congr 2
          rw [show (2 : Nat) ^ 7 = 128 by decide, Nat.mul_comm 128 t, Nat.mul_assoc, Nat.mul_comm 128]
        · rw [uvarint_big (by omega), show (x.toNat % 128 + 128 * t) % 128 + 128 = x.toNat by omega, show (x.toNat % 128 + 128 * t) / 128 = t by omega, List.cons_append, ← hr]
          simp
        · rw [uvarint_big (by omega), show (x.toNat % 128 + 128 * t) / 128 = t by omega, List.length_cons, hk]; omega
    · simp at h
theorem getU_sound {l : List UInt8} {v k : Nat} (h : getU l = (v, k, 0)) : ∃ r, l = uvarint v ++ r ∧ k = (uvarint v).length := by
  obtain ⟨t, r, hv, hl, hk, _⟩ := scan_sound 10 0 0 l v k h
  have : v = t := by simpa using hv
  subst this
  exact ⟨r, hl, by simpa using hk⟩
theorem weigh_lt (l : List UInt8) : weigh l < 18446744073709551616 := by
  cases l with
  | nil => decide
  | cons x r => exact Nat.mod_lt _ (by decide)
theorem weigh_uvarint (x : Nat) (hx : x < 18446744073709551616) : weigh (uvarint x) = x := by
  induction x using Nat.strongRecOn with
  | _ x ih =>
    by_cases h : x < 128
    · rw [uvarint_small h]
      show (x.toUInt8.toNat % 128 + 128 * 0) % 18446744073709551616 = x
      rw [byte_toNat (by omega)]; omega
    · rw [uvarint_big (by omega)]
      show ((x % 128 + 128).toUInt8.toNat % 128 + 128 * weigh (uvarint (x / 128))) % 18446744073709551616 = x
      rw [ih (x / 128) (by omega) (by omega), byte_toNat (by omega)]; omega
theorem num_at {l : List UInt8} {k : Nat} (hk : k ≤ l.length) : uvarint (weigh (l.take k)) = l.take k ↔ (getU l).2 = (k, 0) := by
  constructor
  · intro h
    have e : l = uvarint (weigh (l.take k)) ++ l.drop k := by rw [h, List.take_append_drop]
    have hl : (uvarint (weigh (l.take k))).length = k := by rw [h, List.length_take]; omega
    conv => lhs; rw [e]
    rw [getU_uvarint _ (weigh_lt _), hl]
  · intro h
    have h' : getU l = ((getU l).1, k, 0) := by rw [← h]
    obtain ⟨r, hl, hk'⟩ := getU_sound h'
    have ht : l.take k = uvarint (getU l).1 := by
      conv => lhs; rw [hl]
      rw [hk', List.take_left]
    rw [ht, weigh_uvarint _ (getU_lt l)]
theorem num_is {l : List UInt8} {k : Nat} (hk : k ≤ l.length) (h : uvarint (weigh (l.take k)) = l.take k) : getU l = (weigh (l.take k), k, 0) := by
  have e : l = uvarint (weigh (l.take k)) ++ l.drop k := by rw [h, List.take_append_drop]
  have hl : (uvarint (weigh (l.take k))).length = k := by rw [h, List.length_take]; omega
  conv => lhs; rw [e]
  rw [getU_uvarint _ (weigh_lt _), hl]
theorem scan_snoc : ∀ (f j acc : Nat) (l : List UInt8), l.length < f → (scan f j acc l = (0, 0, 11) ↔ (scan f j acc (l ++ [1])).2 = (j + l.length + 1, 0))
  | 0, _, _, _, h => by omega
  | f + 1, j, acc, [], h => by simp [scan, mayB]
  | f + 1, j, acc, x :: r, h => by
    have ih := scan_snoc f (j + 1) (acc + x.toNat % 128 * 2 ^ (7 * j)) r (by simpa using h)
    rw [List.cons_append, scan, scan]
    split
    · split
      · simp
      · rw [ih, List.length_cons, show j + 1 + r.length + 1 = j + (r.length + 1) + 1 by omega]
    · simp
theorem scan_long : ∀ (f j acc : Nat) (l : List UInt8), f ≤ l.length → (scan f j acc l).2.2 ≠ 11
  | 0, _, _, _, _ => by simp [scan]
  | f + 1, j, acc, [], h => by simp at h
  | f + 1, j, acc, x :: r, h => by
    have ih := scan_long f (j + 1) (acc + x.toNat % 128 * 2 ^ (7 * j)) r (by simpa using h)
    rw [scan]
    split
    · split
      · simp
      · exact ih
    · simp
theorem scan_kind : ∀ (f j acc : Nat) (l : List UInt8), (scan f j acc l).2.2 = 0 ∨ scan f j acc l = (0, 0, 10) ∨ scan f j acc l = (0, 0, 11)
  | 0, _, _, _ => .inr (.inl rfl)
  | f + 1, j, acc, [] => .inr (.inr rfl)
  | f + 1, j, acc, x :: r => by
    rw [scan]
    split
    · split
      · exact .inl rfl
      · exact scan_kind f _ _ r
    · exact .inr (.inl rfl)
theorem short_yes {l : List UInt8} (h : l.length + 1 ≤ 10) (he : uvarint (weigh (l ++ [1])) = l ++ [1]) : getU l = (0, 0, 11) := by
  have hlen : (l ++ [1]).length = l.length + 1 := by simp
  have h1 := (num_at (l := l ++ [1]) (k := l.length + 1) (by omega)).1
  rw [List.take_of_length_le (by omega)] at h1
  have h2 := h1 he
  exact (scan_snoc 10 0 0 l (by omega)).2 (by rw [Nat.zero_add]; exact h2)
theorem short_no {l : List UInt8} (h0 : (getU l).2.2 ≠ 0) (h : ¬ (l.length + 1 ≤ 10 ∧ uvarint (weigh (l ++ [1])) = l ++ [1])) : getU l = (0, 0, 10) := by
  rcases scan_kind 10 0 0 l with hk | hk | hk
  · exact absurd hk h0
  · exact hk
  · exfalso
    have hlen : (l ++ [1]).length = l.length + 1 := by simp
    have hs : l.length + 1 ≤ 10 := by
      by_cases hl : 10 ≤ l.length
      · exact absurd (by rw [hk]) (scan_long 10 0 0 l hl)
      · omega
    refine h ⟨hs, ?_⟩
    have h1 := (num_at (l := l ++ [1]) (k := l.length + 1) (by omega)).2
    rw [List.take_of_length_le (by omega)] at h1
    refine h1 ?_
    have := (scan_snoc 10 0 0 l (by omega)).1 hk
    rwa [Nat.zero_add] at this
theorem getU_ten {l : List UInt8} (h : (getU l).2.2 = 0) : (getU l).2.1 ≤ 10 := by
  have h' : getU l = ((getU l).1, (getU l).2.1, 0) := by rw [← h]
  obtain ⟨r, hl, hk⟩ := getU_sound h'
  rw [hk]
  exact Lib.uvarint_length64 (getU_lt l)
end Go.Proofs.Ytebpdlggkncliaa

/-
  Events as bytes, and frames of them: plain facts, without the program.
-/
set_option linter.unusedVariables false
namespace Go.Proofs.Ytebpdlggkncliaa
open Go.RowKit
open Go.Lib (uvarint)

structure Ev where
  th : Int
  op : Nat
  obj : Int
  a : Int
  b : Int
def Ev.zero : Ev := ⟨0, 0, 0, 0, 0⟩
def In64 (x : Int) : Prop := -9223372036854775808 ≤ x ∧ x ≤ 9223372036854775807
structure Ev.ok (e : Ev) : Prop where
  th : In64 e.th
  op : e.op < 256
  obj : In64 e.obj
  a : In64 e.a
  b : In64 e.b
theorem Ev.zero_ok : Ev.zero.ok := by constructor <;> (try unfold In64) <;> decide
def svar (x : Int) : List UInt8 := uvarint (Lib.zigzag x)
def dif (p e : Int) : Int := wrap64 (e - p)
theorem wrap64_in (x : Int) : In64 (wrap64 x) := by unfold In64 wrap64; omega
theorem dif_in (p e : Int) : In64 (dif p e) := wrap64_in _
theorem dif_back {p e : Int} (he : In64 e) : wrap64 (p + dif p e) = e := by unfold In64 at he; unfold dif wrap64; omega
theorem dif_of {p x : Int} (hx : In64 x) : dif p (wrap64 (p + x)) = x := by unfold In64 at hx; unfold dif wrap64; omega
theorem dif_self (e : Int) : dif e e = 0 := by unfold dif wrap64; omega
theorem dif_shift (p e d : Int) : dif (wrap64 (p + d)) (wrap64 (e + d)) = dif p e := by unfold dif wrap64; omega
theorem dif_inj {p x y : Int} (hx : In64 x) (hy : In64 y) (h : dif p x = dif p y) : x = y := by
  rw [← dif_back (p := p) hx, h, dif_back hy]
def encEv (p e : Ev) : List UInt8 := e.op.toUInt8 :: (svar (dif p.th e.th) ++ (svar (dif p.obj e.obj) ++ (svar (dif p.a e.a) ++ svar (dif p.b e.b))))

theorem svar_pos (x : Int) : 1 ≤ (svar x).length := Lib.uvarint_pos _
theorem svar_most {x : Int} (h : In64 x) : (svar x).length ≤ 10 := Lib.uvarint_length64 (Lib.zigzag_lt h.1 h.2)
theorem encEv_least (p e : Ev) : 5 ≤ (encEv p e).length := by
  have h1 := svar_pos (dif p.th e.th); have h2 := svar_pos (dif p.obj e.obj); have h3 := svar_pos (dif p.a e.a); have h4 := svar_pos (dif p.b e.b)
  unfold encEv
  rw [List.length_cons, List.length_append, List.length_append, List.length_append]
  omega
theorem encEv_most (p e : Ev) : (encEv p e).length ≤ 41 := by
  have h1 := svar_most (dif_in p.th e.th); have h2 := svar_most (dif_in p.obj e.obj); have h3 := svar_most (dif_in p.a e.a); have h4 := svar_most (dif_in p.b e.b)
  unfold encEv
  rw [List.length_cons, List.length_append, List.length_append, List.length_append]
  omega
theorem svar_zero : svar 0 = [0] := Lib.uvarint_small (by decide)
theorem encEv_self (e : Ev) : encEv e e = [e.op.toUInt8, 0, 0, 0, 0] := by
  unfold encEv
  rw [dif_self, dif_self, dif_self, dif_self, svar_zero]
  rfl
theorem svar_front {x y : Int} {r s : List UInt8} (hx : In64 x) (hy : In64 y) (h : svar x ++ r = svar y ++ s) : x = y ∧ r = s := by
  obtain ⟨h1, h2⟩ := uvarint_front (Lib.zigzag_lt hx.1 hx.2) (Lib.zigzag_lt hy.1 hy.2) h
  exact ⟨by rw [← unzigzag_zigzag x, h1, unzigzag_zigzag], h2⟩
theorem op_inj {a b : Nat} (ha : a < 256) (hb : b < 256) (h : a.toUInt8 = b.toUInt8) : a = b := by
  have := congrArg UInt8.toNat h
  rwa [byte_toNat ha, byte_toNat hb] at this
/-- one event's bytes tell it, and where they end -/
theorem encEv_front {p x y : Ev} {r s : List UInt8} (hx : x.ok) (hy : y.ok) (h : encEv p x ++ r = encEv p y ++ s) : x = y ∧ r = s := by
  unfold encEv at h
  rw [List.cons_append, List.cons_append, List.append_assoc, List.append_assoc, List.append_assoc, List.append_assoc, List.append_assoc, List.append_assoc] at h
  injection h with h0 h
  obtain ⟨h1, h⟩ := svar_front (dif_in _ _) (dif_in _ _) h
  obtain ⟨h2, h⟩ := svar_front (dif_in _ _) (dif_in _ _) h
  obtain ⟨h3, h⟩ := svar_front (dif_in _ _) (dif_in _ _) h
  obtain ⟨h4, h⟩ := svar_front (dif_in _ _) (dif_in _ _) h
  refine ⟨?_, h⟩
  have e0 := op_inj hx.op hy.op h0
  have e1 := dif_inj hx.th hy.th h1
  have e2 := dif_inj hx.obj hy.obj h2
  have e3 := dif_inj hx.a hy.a h3
  have e4 := dif_inj hx.b hy.b h4
  obtain ⟨a, b, c, d, e⟩ := x
  obtain ⟨a', b', c', d', e'⟩ := y
  simp only at e0 e1 e2 e3 e4
  rw [e0, e1, e2, e3, e4]

/- ## Reading -/
/-- the place and the error so far; one more number -/
def stp (l : List UInt8) (s : Nat × Nat) : Nat × Nat := if s.2 = 0 then (nextU s.1 (getU (l.drop s.1)), (getU (l.drop s.1)).2.2) else s
def stv (l : List UInt8) (s : Nat × Nat) (was : Int) : Int := if s.2 = 0 then wrap64 (was + Lib.unzigzag (getU (l.drop s.1)).1) else 0
def stpN (l : List UInt8) : Nat → Nat × Nat → Nat × Nat
  | 0, s => s
  | n + 1, s => stp l (stpN l n s)
def rawEv (p : Ev) (l : List UInt8) (k op : Nat) : Ev :=
  ⟨stv l (stpN l 0 (k, 0)) p.th, op, stv l (stpN l 1 (k, 0)) p.obj, stv l (stpN l 2 (k, 0)) p.a, stv l (stpN l 3 (k, 0)) p.b⟩
/-- the event, the place behind it, the error: at a place k that there is -/
def getEv (p : Ev) (l : List UInt8) (k : Nat) : Ev × Nat × Nat :=
  match l[k]? with
  | none => (Ev.zero, 0, 11)
  | some x => if (stpN l 4 (k + 1, 0)).2 = 0 then (rawEv p l (k + 1) x.toNat, (stpN l 4 (k + 1, 0)).1, 0) else (Ev.zero, 0, (stpN l 4 (k + 1, 0)).2)

theorem stp_svar {l r : List UInt8} {k : Nat} {x : Int} (hx : In64 x) (h : l.drop k = svar x ++ r) : stp l (k, 0) = (k + (svar x).length, 0) ∧ ∀ was, stv l (k, 0) was = wrap64 (was + x) := by
  have hg := getU_uvarint r (Lib.zigzag_lt hx.1 hx.2)
  unfold svar at h ⊢
  constructor
  · unfold stp nextU
    simp only [h, hg, if_pos]
  · intro was
    unfold stv
    simp only [h, hg, if_pos, unzigzag_zigzag]
theorem drop_more {l r s : List UInt8} {k : Nat} (h : l.drop k = s ++ r) : l.drop (k + s.length) = r := by
  rw [← List.drop_drop, h, List.drop_left]
theorem getEv_enc {p e : Ev} {l r : List UInt8} {k : Nat} (he : e.ok) (h : l.drop k = encEv p e ++ r) : getEv p l k = (e, k + (encEv p e).length, 0) := by
  unfold encEv at h
  rw [List.cons_append, List.append_assoc, List.append_assoc, List.append_assoc] at h
  have h0 : l[k]? = some e.op.toUInt8 := by
    have := congrArg (fun q : List UInt8 => q[0]?) h
    simpa using this
  have h1 : l.drop (k + 1) = _ := drop_more (s := [e.op.toUInt8]) h
  obtain ⟨a1, b1⟩ := stp_svar (dif_in _ _) h1
  have h2 := drop_more h1
  obtain ⟨a2, b2⟩ := stp_svar (dif_in _ _) h2
  have h3 := drop_more h2
  obtain ⟨a3, b3⟩ := stp_svar (dif_in _ _) h3
  have h4 := drop_more h3
  obtain ⟨a4, b4⟩ := stp_svar (dif_in _ _) h4
  unfold getEv rawEv
  rw [h0]
  have hop : (e.op.toUInt8).toNat = e.op := byte_toNat he.op
  simp only [stpN, a1, a2, a3, a4, b1, b2, b3, b4, if_pos, hop, dif_back he.th, dif_back he.obj, dif_back he.a, dif_back he.b]
  refine Prod.ext rfl (Prod.ext ?_ rfl)
  show _ = k + (encEv p e).length
  unfold encEv
  dsimp only
  rw [List.length_cons, List.length_append, List.length_append, List.length_append]
  omega
theorem stp_ok {l : List UInt8} {s : Nat × Nat} (h : (stp l s).2 = 0) : s.2 = 0 := by
  unfold stp at h
  split at h
  · assumption
  · exact h
theorem stp_sound {l : List UInt8} {k : Nat} (h : (stp l (k, 0)).2 = 0) : ∃ x r, In64 x ∧ l.drop k = svar x ++ r ∧ (stp l (k, 0)).1 = k + (svar x).length ∧ ∀ was, stv l (k, 0) was = wrap64 (was + x) := by
  unfold stp at h
  rw [if_pos rfl] at h
  have hl := getU_lt (l.drop k)
  generalize hq : getU (l.drop k) = q at h hl
  obtain ⟨v, m, e⟩ := q
  simp only at h hl
  subst h
  obtain ⟨r, h1, h2⟩ := getU_sound hq
  have hz : In64 (Lib.unzigzag v) := by
    unfold In64 Lib.unzigzag
    split <;> omega
  refine ⟨Lib.unzigzag v, r, hz, ?_, ?_, ?_⟩
  · unfold svar; rw [zigzag_unzigzag]; exact h1
  · unfold stp nextU svar
    rw [if_pos rfl, hq, zigzag_unzigzag, ← h2]
    simp
  · intro was
    unfold stv
    rw [if_pos rfl, hq]
theorem getEv_sound {p : Ev} {l : List UInt8} {k : Nat} (h : (getEv p l k).2.2 = 0) :
    (getEv p l k).1.ok ∧ ∃ r, l.drop k = encEv p (getEv p l k).1 ++ r ∧ (getEv p l k).2.1 = k + (encEv p (getEv p l k).1).length := by
  unfold getEv at h ⊢
  cases h0 : l[k]? with
  | none => rw [h0] at h; simp at h
  | some x =>
    rw [h0] at h
    simp only at h ⊢
    by_cases h4 : (stpN l 4 (k + 1, 0)).2 = 0
    · rw [if_pos h4]
      have g3 : (stpN l 3 (k + 1, 0)).2 = 0 := stp_ok h4
      have g2 : (stpN l 2 (k + 1, 0)).2 = 0 := stp_ok g3
      have g1 : (stpN l 1 (k + 1, 0)).2 = 0 := stp_ok g2
      have hd := drop_cons h0
      obtain ⟨x1, r1, i1, d1, n1, v1⟩ := stp_sound (l := l) (k := k + 1) g1
      have e1 : stpN l 1 (k + 1, 0) = (k + 1 + (svar x1).length, 0) := Prod.ext n1 g1
      have g2' : (stp l (k + 1 + (svar x1).length, 0)).2 = 0 := by rw [← e1]; exact g2
      obtain ⟨x2, r2, i2, d2, n2, v2⟩ := stp_sound g2'
      have e2 : stpN l 2 (k + 1, 0) = (k + 1 + (svar x1).length + (svar x2).length, 0) := by
        show stp l (stpN l 1 (k + 1, 0)) = _
        rw [e1]; exact Prod.ext n2 g2'
      have g3' : (stp l (k + 1 + (svar x1).length + (svar x2).length, 0)).2 = 0 := by rw [← e2]; exact g3
      obtain ⟨x3, r3, i3, d3, n3, v3⟩ := stp_sound g3'
      have e3 : stpN l 3 (k + 1, 0) = (k + 1 + (svar x1).length + (svar x2).length + (svar x3).length, 0) := by
        show stp l (stpN l 2 (k + 1, 0)) = _
        rw [e2]; exact Prod.ext n3 g3'
      have g4' : (stp l (k + 1 + (svar x1).length + (svar x2).length + (svar x3).length, 0)).2 = 0 := by rw [← e3]; exact h4
      obtain ⟨x4, r4, i4, d4, n4, v4⟩ := stp_sound g4'
      have e4 : stpN l 4 (k + 1, 0) = (k + 1 + (svar x1).length + (svar x2).length + (svar x3).length + (svar x4).length, 0) := by
        show stp l (stpN l 3 (k + 1, 0)) = _
        rw [e3]; exact Prod.ext n4 g4'
      have f1 : r1 = svar x2 ++ r2 := by rw [← d2]; exact (drop_more d1).symm
      have f2 : r2 = svar x3 ++ r3 := by rw [← d3]; exact (drop_more d2).symm
      have f3 : r3 = svar x4 ++ r4 := by rw [← d4]; exact (drop_more d3).symm
      have hraw : rawEv p l (k + 1) x.toNat = ⟨wrap64 (p.th + x1), x.toNat, wrap64 (p.obj + x2), wrap64 (p.a + x3), wrap64 (p.b + x4)⟩ := by
        unfold rawEv
        rw [e1, e2, e3]
        simp only [stpN, v1, v2, v3, v4]
      simp only [hraw]
      refine ⟨⟨wrap64_in _, x.toNat_lt, wrap64_in _, wrap64_in _, wrap64_in _⟩, r4, ?_, ?_⟩
      · rw [hd, d1, f1, f2, f3]
        unfold encEv
        simp only [dif_of i1, dif_of i2, dif_of i3, dif_of i4]
        have hx : (x.toNat).toUInt8 = x := by simp [Nat.toUInt8]
        rw [hx]
        simp only [List.cons_append, List.append_assoc]
      · rw [e4]
        unfold encEv
        simp only [dif_of i1, dif_of i2, dif_of i3, dif_of i4]
        rw [List.length_cons, List.length_append, List.length_append, List.length_append]
        omega
    · rw [if_neg h4] at h
      exact absurd h h4

/- ## Frames -/
def encEvs : Ev → List Ev → List UInt8
  | _, [] => []
  | p, e :: r => encEv p e ++ encEvs e r
def lastEv : Ev → List Ev → Ev
  | p, [] => p
  | _, e :: r => lastEv e r
theorem encEvs_snoc : ∀ (l : List Ev) (p e : Ev), encEvs p (l ++ [e]) = encEvs p l ++ encEv (lastEv p l) e
  | [], p, e => by simp [encEvs, lastEv]
  | x :: l, p, e => by
    show encEv p x ++ encEvs x (l ++ [e]) = (encEv p x ++ encEvs x l) ++ _
    rw [encEvs_snoc l x e, List.append_assoc]
    rfl
theorem lastEv_snoc : ∀ (l : List Ev) (p e : Ev), lastEv p (l ++ [e]) = e
  | [], _, _ => rfl
  | x :: l, _, e => lastEv_snoc l x e
theorem encEvs_most : ∀ (l : List Ev) (p : Ev), (encEvs p l).length ≤ 41 * l.length
  | [], _ => by simp [encEvs]
  | x :: l, p => by
    have h1 := encEv_most p x
    have h2 := encEvs_most l x
    show (encEv p x ++ encEvs x l).length ≤ 41 * (l.length + 1)
    rw [List.length_append]
    omega
theorem encEvs_least : ∀ (l : List Ev) (p : Ev), 5 * l.length ≤ (encEvs p l).length
  | [], _ => by simp [encEvs]
  | x :: l, p => by
    have h1 := encEv_least p x
    have h2 := encEvs_least l x
    show 5 * (l.length + 1) ≤ (encEv p x ++ encEvs x l).length
    rw [List.length_append]
    omega
theorem encEvs_front : ∀ (l m : List Ev) (p : Ev) (r s : List UInt8), (∀ x ∈ l, x.ok) → (∀ x ∈ m, x.ok) → l.length = m.length → encEvs p l ++ r = encEvs p m ++ s → l = m ∧ r = s
  | [], [], _, _, _, _, _, _, h => ⟨rfl, h⟩
  | [], _ :: _, _, _, _, _, _, h, _ => by simp at h
  | _ :: _, [], _, _, _, _, _, h, _ => by simp at h
  | x :: l, y :: m, p, r, s, hl, hm, hn, h => by
    have h' : encEv p x ++ (encEvs x l ++ r) = encEv p y ++ (encEvs y m ++ s) := by
      rw [← List.append_assoc, ← List.append_assoc]; exact h
    obtain ⟨rfl, h2⟩ := encEv_front (hl x (by simp)) (hm y (by simp)) h'
    obtain ⟨rfl, h3⟩ := encEvs_front l m x r s (fun z hz => hl z (by simp [hz])) (fun z hz => hm z (by simp [hz])) (by simpa using hn) h2
    exact ⟨rfl, h3⟩

def bodyOf (es : List Ev) : List UInt8 := uvarint es.length ++ encEvs Ev.zero es
def frameOf (es : List Ev) : List UInt8 := uvarint (bodyOf es).length ++ sealed (bodyOf es)
theorem bodyOf_most {es : List Ev} (h : es.length ≤ 4096) : (bodyOf es).length ≤ 170000 := by
  have h1 := encEvs_most es Ev.zero
  have h2 := Lib.uvarint_length64 (x := es.length) (by omega)
  unfold bodyOf
  rw [List.length_append]
  omega
/-- what a frame's body is of -/
structure Evs (es : List Ev) : Prop where
  some_ : 1 ≤ es.length
  most : es.length ≤ 4096
  ok : ∀ x ∈ es, x.ok
theorem bodyOf_inj {l m : List Ev} (hl : Evs l) (hm : Evs m) (h : bodyOf l = bodyOf m) : l = m := by
  unfold bodyOf at h
  have a := hl.most; have b := hm.most
  obtain ⟨h1, h2⟩ := uvarint_front (by omega) (by omega) h
  exact (encEvs_front l m Ev.zero [] [] hl.ok hm.ok h1 (by rw [List.append_nil, List.append_nil]; exact h2)).1

def readEvs : Nat → Ev → List UInt8 → Nat → Option (List Ev × Nat)
  | 0, _, _, k => some ([], k)
  | n + 1, p, l, k => if (getEv p l k).2.2 = 0 then (readEvs n (getEv p l k).1 l (getEv p l k).2.1).map fun r => ((getEv p l k).1 :: r.1, r.2) else none
def evsOf (m : List UInt8) : Option (List Ev) :=
  if (getU m).2.2 ≠ 0 ∨ (getU m).1 = 0 ∨ 4096 < (getU m).1 then none
  else match readEvs (getU m).1 Ev.zero m (getU m).2.1 with
    | some r => if r.2 = m.length then some r.1 else none
    | none => none
theorem readEvs_enc : ∀ (es : List Ev) (p : Ev) (l r : List UInt8) (k : Nat), (∀ x ∈ es, x.ok) → l.drop k = encEvs p es ++ r → readEvs es.length p l k = some (es, k + (encEvs p es).length)
  | [], _, _, _, _, _, _ => rfl
  | e :: es, p, l, r, k, ho, h => by
    have h' : l.drop k = encEv p e ++ (encEvs e es ++ r) := by rw [h, ← List.append_assoc]; rfl
    have hg := getEv_enc (ho e (by simp)) h'
    have hr := readEvs_enc es e l r (k + (encEv p e).length) (fun x hx => ho x (by simp [hx])) (drop_more h')
    rw [List.length_cons, readEvs, hg]
    simp only [if_pos, hr, Option.map_some]
    congr 2
    show _ = k + (encEv p e ++ encEvs e es).length
    rw [List.length_append]
    omega
theorem readEvs_sound : ∀ (n : Nat) (p : Ev) (l : List UInt8) (k : Nat) (es : List Ev) (j : Nat), readEvs n p l k = some (es, j) →
    es.length = n ∧ (∀ x ∈ es, x.ok) ∧ ∃ r, l.drop k = encEvs p es ++ r ∧ j = k + (encEvs p es).length
  | 0, p, l, k, es, j, h => by
    simp only [readEvs, Option.some.injEq, Prod.mk.injEq] at h
    obtain ⟨rfl, rfl⟩ := h
    exact ⟨rfl, (fun _ h => by cases h), l.drop k, rfl, rfl⟩
  | n + 1, p, l, k, es, j, h => by
    rw [readEvs] at h
    by_cases hg : (getEv p l k).2.2 = 0
    · rw [if_pos hg] at h
      obtain ⟨ho, r, hd, hn⟩ := getEv_sound hg
      generalize getEv p l k = q at h ho hd hn
      obtain ⟨e, m, f⟩ := q
      simp only at h ho hd hn
      cases hr : readEvs n e l m with
      | none => rw [hr] at h; cases h
      | some x =>
        obtain ⟨es', j'⟩ := x
        rw [hr] at h
        simp only [Option.map_some, Option.some.injEq, Prod.mk.injEq] at h
        obtain ⟨rfl, rfl⟩ := h
        obtain ⟨h1, h2, r2, h3, h4⟩ := readEvs_sound n e l m es' j' hr
        refine ⟨by rw [List.length_cons, h1], fun x hx => ?_, r2, ?_, ?_⟩
        · rcases List.mem_cons.1 hx with rfl | hx
          · exact ho
          · exact h2 x hx
        · rw [hd]
          have : r = l.drop m := by rw [hn]; exact (drop_more hd).symm
          rw [this, h3, ← List.append_assoc]
          rfl
        · rw [h4, hn]
          show _ = k + (encEv p e ++ encEvs e es').length
          rw [List.length_append]
          omega
    · rw [if_neg hg] at h
      cases h
theorem evsOf_body {es : List Ev} (h : Evs es) : evsOf (bodyOf es) = some es := by
  have hg := getU_uvarint (x := es.length) (encEvs Ev.zero es) (by have := h.most; omega)
  have hb : getU (bodyOf es) = _ := hg
  have hr := readEvs_enc es Ev.zero (bodyOf es) [] (uvarint es.length).length h.ok (by unfold bodyOf; rw [List.drop_left, List.append_nil])
  have h1 := h.some_
  have h2 := h.most
  unfold evsOf
  rw [hb]
  simp only
  rw [if_neg (by omega), hr]
  simp only
  rw [if_pos (by unfold bodyOf; rw [List.length_append])]
theorem evsOf_sound {m : List UInt8} {es : List Ev} (h : evsOf m = some es) : Evs es ∧ m = bodyOf es := by
  unfold evsOf at h
  by_cases hc : (getU m).2.2 ≠ 0 ∨ (getU m).1 = 0 ∨ 4096 < (getU m).1
  · rw [if_pos hc] at h; cases h
  · rw [if_neg hc] at h
    generalize hq : getU m = q at h hc
    obtain ⟨v, j, f⟩ := q
    simp only at h hc
    have hf : f = 0 := by omega
    subst hf
    obtain ⟨r, h1, h2⟩ := getU_sound hq
    cases hr : readEvs v Ev.zero m j with
    | none => rw [hr] at h; cases h
    | some x =>
      obtain ⟨es', k⟩ := x
      rw [hr] at h
      simp only at h
      by_cases hk : k = m.length
      · rw [if_pos hk] at h
        obtain rfl := Option.some.inj h
        obtain ⟨g1, g2, r2, g3, g4⟩ := readEvs_sound v Ev.zero m j es' k hr
        refine ⟨⟨by omega, by omega, g2⟩, ?_⟩
        have hr0 : r = m.drop j := by rw [h2]; exact (drop_more (k := 0) h1).symm.trans (by rw [Nat.zero_add])
        have hr2 : r2 = [] := by
          have e1 := congrArg List.length g3
          rw [List.length_drop, List.length_append] at e1
          have e2 := congrArg List.length h1
          rw [List.length_append, ← h2] at e2
          exact List.eq_nil_of_length_eq_zero (by omega)
        rw [h1, hr0, g3, hr2, List.append_nil, ← g1]
        rfl
      · rw [if_neg hk] at h; cases h

/-- the events of the frame at a place k that there is, the place behind it, the error -/
def rdFrame (l : List UInt8) (k : Nat) : List Ev × Nat × Nat :=
  if (getU (l.drop k)).2.2 ≠ 0 then ([], 0, (getU (l.drop k)).2.2)
  else if 262144 < (getU (l.drop k)).1 then ([], 0, 3)
  else if l.length < k + (getU (l.drop k)).2.1 + (getU (l.drop k)).1 + 4 then ([], 0, 11)
  else if (l.drop (k + (getU (l.drop k)).2.1 + (getU (l.drop k)).1)).take 4 ≠ sumBytes (crc ((l.drop (k + (getU (l.drop k)).2.1)).take (getU (l.drop k)).1)) then ([], 0, 12)
  else match evsOf ((l.drop (k + (getU (l.drop k)).2.1)).take (getU (l.drop k)).1) with
    | none => ([], 0, 10)
    | some es => (es, k + (getU (l.drop k)).2.1 + (getU (l.drop k)).1 + 4, 0)
theorem rd_head {l r : List UInt8} {k n : Nat} (hn : n ≤ 262144) (h : l.drop k = uvarint n ++ r) : getU (l.drop k) = (n, (uvarint n).length, 0) := by
  rw [h]; exact getU_uvarint r (by omega)
theorem frameOf_length (es : List Ev) : (frameOf es).length = (uvarint (bodyOf es).length).length + (bodyOf es).length + 4 := by
  unfold frameOf sealed
  rw [List.length_append, List.length_append, sumBytes_length]
  omega
theorem rdFrame_frame {es : List Ev} {l r : List UInt8} {k : Nat} (he : Evs es) (h : l.drop k = frameOf es ++ r) : rdFrame l k = (es, k + (frameOf es).length, 0) := by
  have hm := bodyOf_most he.most
  have h' : l.drop k = uvarint (bodyOf es).length ++ (bodyOf es ++ (sumBytes (crc (bodyOf es)) ++ r)) := by
    rw [h]; unfold frameOf sealed; simp only [List.append_assoc]
  have hg := rd_head (by omega) h'
  have hl := congrArg List.length h
  rw [List.length_drop, List.length_append, frameOf_length] at hl
  have h2 := drop_more h'
  have h3 := drop_more h2
  have e3 : (l.drop (k + (uvarint (bodyOf es).length).length + (bodyOf es).length)).take 4 = sumBytes (crc (bodyOf es)) := by
    rw [h3, List.take_append_of_le_length (by rw [sumBytes_length]; omega), List.take_of_length_le (by rw [sumBytes_length]; omega)]
  unfold rdFrame
  rw [hg]
  simp only
  have e2 : (l.drop (k + (uvarint (bodyOf es).length).length)).take (bodyOf es).length = bodyOf es := by
    rw [h2, List.take_left]
  have hk : k + ((uvarint (bodyOf es).length).length + (bodyOf es).length + 4) ≤ l.length := by
    have := Lib.uvarint_pos (bodyOf es).length
    omega
  rw [e2, if_neg (by simp), if_neg (by omega), if_neg (by omega), e3, if_neg (by simp), evsOf_body he, frameOf_length]
  simp only [Nat.add_assoc]
theorem rdFrame_sound {l : List UInt8} {k : Nat} (h : (rdFrame l k).2.2 = 0) :
    Evs (rdFrame l k).1 ∧ ∃ r, l.drop k = frameOf (rdFrame l k).1 ++ r ∧ (rdFrame l k).2.1 = k + (frameOf (rdFrame l k).1).length := by
  generalize hq : getU (l.drop k) = q
  obtain ⟨v, j, f⟩ := q
  unfold rdFrame at h ⊢
  rw [hq] at h ⊢
  simp only at h ⊢
  by_cases c1 : f = 0
  · subst c1
    rw [if_neg (by simp)] at h ⊢
    by_cases c2 : 262144 < v
    · rw [if_pos c2] at h; simp at h
    · rw [if_neg c2] at h ⊢
      by_cases c3 : l.length < k + j + v + 4
      · rw [if_pos c3] at h; simp at h
      · rw [if_neg c3] at h ⊢
        by_cases c4 : (l.drop (k + j + v)).take 4 = sumBytes (crc ((l.drop (k + j)).take v))
        · rw [if_neg (by simp [c4])] at h ⊢
          cases c5 : evsOf ((l.drop (k + j)).take v) with
          | none => rw [c5] at h; simp at h
          | some es =>
            simp only
            obtain ⟨he, hm⟩ := evsOf_sound c5
            obtain ⟨r, h1, h2⟩ := getU_sound hq
            have hv : v = (bodyOf es).length := by rw [← hm, List.length_take, List.length_drop]; omega
            have d1 : l.drop (k + j) = r := by rw [h2]; exact drop_more h1
            have d2 : r = bodyOf es ++ (sumBytes (crc (bodyOf es)) ++ l.drop (k + j + v + 4)) := by
              rw [← d1, ← hm, ← c4]
              have t1 : l.drop (k + j) = (l.drop (k + j)).take v ++ l.drop (k + j + v) := by
                conv => lhs; rw [← List.take_append_drop v (l.drop (k + j)), List.drop_drop]
              have t2 : l.drop (k + j + v) = (l.drop (k + j + v)).take 4 ++ l.drop (k + j + v + 4) := by
                conv => lhs; rw [← List.take_append_drop 4 (l.drop (k + j + v)), List.drop_drop]
              rw [← t2]; exact t1
            refine ⟨he, l.drop (k + j + v + 4), ?_, ?_⟩
            · rw [h1, d2, hv]
              unfold frameOf sealed
              simp only [List.append_assoc]
            · rw [frameOf_length, ← hv, ← h2]
              omega
        · rw [if_pos c4] at h; simp at h
  · rw [if_pos c1] at h
    exact absurd h c1
end Go.Proofs.Ytebpdlggkncliaa

/-
  Events in memory.
-/
set_option linter.unusedVariables false
namespace Go.Proofs.Ytebpdlggkncliaa
open Go.RowKit
open Go.Lib (byteCells byteCells_length byteCells_append uvarint)

def Ev.cells (e : Ev) : List Value := [.int .i64 e.th, .int .u8 (e.op : Int), .int .i64 e.obj, .int .i64 e.a, .int .i64 e.b]
/-- an event by value -/
abbrev Ev.val (e : Ev) : Value := .agg #[.int .i64 e.th, .int .u8 (e.op : Int), .int .i64 e.obj, .int .i64 e.a, .int .i64 e.b]
/-- a slice of events holds these -/
structure IsEv (w : World) (A : Option Addr) (n c : Nat) (es : List Ev) : Prop where
  len : es.length = n
  cap : n ≤ c
  none_ : A = none → c = 0
  src : es = [] ∨ ∃ b o, A = some ⟨b, o, none⟩ ∧ ∀ j x, es[j]? = some x → ∀ f u, x.cells[f]? = some u → w.cell? ⟨b, o + j * 5 + f, none⟩ = some u
theorem IsEv.nil (w : World) : IsEv w none 0 0 [] := ⟨rfl, Nat.le_refl _, fun _ => rfl, .inl rfl⟩
theorem IsEv.below {w w' : World} {A : Option Addr} {n c : Nat} {es : List Ev} (h : IsEv w A n c es) (hb : Below w.heap.size w w') : IsEv w' A n c es := by
  refine ⟨h.len, h.cap, h.none_, ?_⟩
  rcases h.src with h0 | ⟨b, o, hA, hc⟩
  · exact .inl h0
  · exact .inr ⟨b, o, hA, fun j x hj f u hu => cell_below hb _ _ (hc j x hj f u hu)⟩
theorem IsEv.away {F : Nat → Prop} {w w' : World} {A : Option Addr} {n c : Nat} {es : List Ev} (h : IsEv w A n c es) (ha : Away F w w') (hf : ∀ ad, A = some ad → ¬ F ad.block) : IsEv w' A n c es := by
  refine ⟨h.len, h.cap, h.none_, ?_⟩
  rcases h.src with h0 | ⟨b, o, hA, hc⟩
  · exact .inl h0
  · refine .inr ⟨b, o, hA, fun j x hj f u hu => ?_⟩
    have hx := hc j x hj f u hu
    exact (World.cell?_of_block (ha.block b (block_lt_of_cell hx) (hf _ hA))).trans hx
/-- the one event's cells -/
theorem IsEv.at_ {w : World} {A : Option Addr} {n c : Nat} {es : List Ev} (h : IsEv w A n c es) {j : Nat} (hj : j < n) :
    ∃ b o x, A = some ⟨b, o, none⟩ ∧ es[j]? = some x ∧ w.cell? ⟨b, o + j * 5, none⟩ = some (.int .i64 x.th) ∧ w.cell? ⟨b, o + j * 5 + 1, none⟩ = some (.int .u8 (x.op : Int)) ∧
      w.cell? ⟨b, o + j * 5 + 2, none⟩ = some (.int .i64 x.obj) ∧ w.cell? ⟨b, o + j * 5 + 3, none⟩ = some (.int .i64 x.a) ∧ w.cell? ⟨b, o + j * 5 + 4, none⟩ = some (.int .i64 x.b) := by
  have hl := h.len
  have hx : es[j]? = some (es[j]'(by omega)) := List.getElem?_eq_getElem (by omega)
  rcases h.src with h0 | ⟨b, o, hA, hc⟩
  · rw [h0] at hl; simp at hl; omega
  · exact ⟨b, o, _, hA, hx, hc j _ hx 0 _ rfl, hc j _ hx 1 _ rfl, hc j _ hx 2 _ rfl, hc j _ hx 3 _ rfl, hc j _ hx 4 _ rfl⟩
end Go.Proofs.Ytebpdlggkncliaa

/-
  Put: an event's bytes, put behind others.
-/
set_option linter.unusedVariables false
set_option linter.unusedSimpArgs false
namespace Go.Proofs.Ytebpdlggkncliaa
open Go.RowKit
open Go.Lib (byteCells byteCells_length byteCells_append uvarint)

set_option maxRecDepth 100000 in
set_option maxHeartbeats 1000000 in
theorem cl_put {w : World} {ob : Nat} {r : Raw} (h : w.heap[ob]? = some (.cells #[r.sl] 26 (0, 0))) (hr : FRow w r) (hl : r.c.1.length ≤ 1000000) (was n : Int) :
    Calls Try.prog 134 #[.int .i64 was, .int .i64 n, .pointer (some ⟨ob, 0, none⟩)] w fun e w' => e = .returned (.int .i64 n) ∧ ∃ r' : Raw, w'.heap[ob]? = some (.cells #[r'.sl] 26 (0, 0)) ∧ FRow w' r' ∧
      r'.c = (r.c.1 ++ svar (dif was n), r.c.2) ∧ (r'.g = r.g ∨ ∃ b, r'.g = some b ∧ w.heap.size ≤ b) ∧ Away (fun b => b = ob ∨ r.g = some b) w w' := by
  have hd : IntKind.i64.wrap (n - was) = dif was n := IntWalk.i64_left _
  have hdi := dif_in was n
  have hne : ∀ b, r.g = some b → b ≠ ob := fun b hb => by
    obtain ⟨cs, hc⟩ := row_type hr hb
    rintro rfl
    rw [h] at hc
    simp at hc
  have hlt := (Array.getElem?_eq_some_iff.1 h).1
  have H := Lib.hid h
  have x0 : w.cell? ⟨ob, 0, none⟩ = some r.sl := cell_of_row w _ 0 _ _ _ h
  obtain ⟨A, m, c, hA⟩ : ∃ A m c, r.sl = .slice A m c := ⟨_, _, _, rfl⟩
  rw [hA] at x0
  have HA := Lib.hid hA
  clear h hA
  generalize dif was n = d at hd hdi ⊢
  go_enter Try.func134, Try.ntmps134
  go_wp2_with fail
  refine wp_region_held_drew (S := fun _ => True) (by kernel_rfl) trivial (fun hHeld => ?_)
  refine wpAnyH_take (i := 1) (v := ?_) rfl (by kernel_rfl) (by kernel_rfl) (by kernel_rfl) (fun _ _ _ h => h) (Or.inl ⟨by rfl, ?_⟩) hHeld ?_
  rotate_left
  · (intro w hSw; (try dsimp only at hSw); go_simp <;> rfl)
  simp only [Act.put, List.getElem_toArray, List.getElem_cons_zero, List.getElem_cons_succ, List.setIfInBounds_toArray, List.set_cons_zero, List.set_cons_succ]
  refine wpAnyH_take (i := 2) (v := ?_) rfl (by kernel_rfl) (by kernel_rfl) (by kernel_rfl) (fun _ _ _ h => h) (Or.inl ⟨by rfl, ?_⟩) hHeld ?_
  rotate_left
  · (intro w hSw; (try dsimp only at hSw); go_simp <;> rfl)
  simp only [Act.put, List.getElem_toArray, List.getElem_cons_zero, List.getElem_cons_succ, List.setIfInBounds_toArray, List.set_cons_zero, List.set_cons_succ]
  refine wpAnyH_take (i := 3) (v := ?_) rfl (by kernel_rfl) (by kernel_rfl) (by kernel_rfl) (fun _ _ _ h => h) (Or.inl ⟨by rfl, ?_⟩) hHeld ?_
  rotate_left
  · (intro w hSw; (try dsimp only at hSw); go_simp <;> rfl)
  simp only [Act.put, List.getElem_toArray, List.getElem_cons_zero, List.getElem_cons_succ, List.setIfInBounds_toArray, List.set_cons_zero, List.set_cons_succ]
  refine wpAnyH_ready (rs := [0, 4]) (by kernel_rfl) (by simp) ?_
  refine AllReadyH.cons rfl (fun K hK => ?_) (AllReadyH.cons rfl (fun K hK => ?_) AllReadyH.nil)
  · have x1 : w.drew.cell? ⟨ob, 0, none⟩ = some (.slice A m c) := x0
    go_simp
    refine hK.out _ _ trivial (fun hHeld => ?_)
    clear hK K
    try simp only [Act.put, List.getElem_toArray, List.getElem_cons_zero, List.getElem_cons_succ, List.setIfInBounds_toArray, List.set_cons_zero, List.set_cons_succ]
    refine wpAnyH_ready (rs := [4]) (by kernel_rfl) (by simp) ?_
    refine AllReadyH.cons rfl (fun K hK => ?_) AllReadyH.nil
    go_simp
    refine (int_any none 0 0 d [] _ (IsB.nil _) (by omega) hdi.1 hdi.2).mono ?_
    rintro e w2 ⟨v, rfl, ho, hb2⟩
    rw [List.nil_append] at ho
    obtain ⟨B, mb, cb, rfl, hI⟩ := own_slice ho
    have hb2' := bstep0 ((Below.refl _ w).drew) hb2
    have hr2 := hr.away (Away.of_new hb2' (fun _ => False)) (fun _ _ f => f)
    have h2 := (hb2'.block _ hlt).trans H.out
    have x1 := cell_below hb2' _ _ x0
    clear hb2 ho
    dsimp only
    refine hK.out _ _ trivial (fun hHeld => ?_)
    clear hK K
    try simp only [Act.put, List.getElem_toArray, List.getElem_cons_zero, List.getElem_cons_succ, List.setIfInBounds_toArray, List.set_cons_zero, List.set_cons_succ]
    have hmb := hI.len
    have hsv : (svar d).length ≤ 10 := svar_most hdi
    unfold svar at hsv
    have hsz := hb2'.size
    obtain ⟨v', w3, hap, g, cap, rfl, hrow, hg, hgr⟩ := rowB hr2 hI (by omega) A m c HA.out 26
    refine wpAnyH_ready (rs := [5]) (by kernel_rfl) (by simp) ?_
    refine AllReadyH.cons rfl (fun K hK => ?_) AllReadyH.nil
    refine step_run (by simp [Region.wanted]) _ _ 26 rfl (R := fun v' w' => v' = .slice (g.map fun b => ⟨b, 0, none⟩) (m + mb) cap ∧ w' = w3) ⟨_, _, hap, rfl, rfl⟩ ?_
    rintro v' w' ⟨rfl, rfl⟩
    refine hK.out _ _ trivial (fun hHeld => ?_)
    clear hK K
    try simp only [Act.put, List.getElem_toArray, List.getElem_cons_zero, List.getElem_cons_succ, List.setIfInBounds_toArray, List.set_cons_zero, List.set_cons_succ]
    have hag := Away.of_grown hgr
    have hlt2 := (Array.getElem?_eq_some_iff.1 h2).1
    have q3 := (hag.block _ hlt2 (fun e => hne _ e rfl)).trans h2
    have y0 : w'.cell? ⟨ob, 0, none⟩ = some r.sl := cell_of_row w' _ 0 _ _ _ q3
    have yf := free_of_row q3 0
    have Q3 := Lib.hid q3
    have H2 := Lib.hid h2
    clear q3 h2 x0 x1 hap
    refine wpAnyH_ready (rs := [6]) (by kernel_rfl) (by simp) ?_
    refine AllReadyH.cons rfl (fun K hK => ?_) AllReadyH.nil
    go_simp
    refine hK.out _ _ trivial (fun hHeld => ?_)
    clear hK K
    try simp only [Act.put, List.getElem_toArray, List.getElem_cons_zero, List.getElem_cons_succ, List.setIfInBounds_toArray, List.set_cons_zero, List.set_cons_succ]
    refine wpAnyH_done (by kernel_rfl) ?_ _
    go_wp2_with fail
    go_ret
    have hS := Away.setCell w' ⟨ob, 0, none⟩ (.slice (g.map fun b => ⟨b, 0, none⟩) (m + mb) cap)
    have hgn : ∀ b, g = some b → b ≠ ob := fun b hb e => by
      subst e
      rcases hg with e | e
      · rw [e] at hb; exact hne _ hb rfl
      · rw [e] at hb; injection hb with hb; omega
    have hm : m = r.c.1.length := by
      have := HA.out
      unfold Raw.sl at this
      simp at this
      exact this.2.1.symm
    have hsl : Raw.sl ⟨g, cap, (r.c.1 ++ uvarint (Lib.zigzag d), r.c.2)⟩ = .slice (g.map fun b => ⟨b, 0, none⟩) (m + mb) cap := by
      unfold Raw.sl
      rw [List.length_append, hmb, hm]
    refine ⟨rfl, ⟨g, cap, (r.c.1 ++ uvarint (Lib.zigzag d), r.c.2)⟩, ?_, hrow.away hS hgn, rfl, ?_, ?_⟩
    · rw [set_blk Q3.out 0, hsl]
      rfl
    · rcases hg with e | e
      · exact .inl e
      · exact .inr ⟨_, e, hsz⟩
    · refine ((Away.of_new hb2' _).trans hag fun b e => .inl (.inr e)).trans hS fun b e => .inl (.inl e)
  · skip
    go_simp
    refine (int_any none 0 0 d [] _ (IsB.nil _) (by omega) hdi.1 hdi.2).mono ?_
    rintro e w2 ⟨v, rfl, ho, hb2⟩
    rw [List.nil_append] at ho
    obtain ⟨B, mb, cb, rfl, hI⟩ := own_slice ho
    have hb2' := bstep0 ((Below.refl _ w).drew) hb2
    have hr2 := hr.away (Away.of_new hb2' (fun _ => False)) (fun _ _ f => f)
    have h2 := (hb2'.block _ hlt).trans H.out
    have x1 := cell_below hb2' _ _ x0
    clear hb2 ho
    dsimp only
    refine hK.out _ _ trivial (fun hHeld => ?_)
    clear hK K
    try simp only [Act.put, List.getElem_toArray, List.getElem_cons_zero, List.getElem_cons_succ, List.setIfInBounds_toArray, List.set_cons_zero, List.set_cons_succ]
    refine wpAnyH_ready (rs := [0]) (by kernel_rfl) (by simp) ?_
    refine AllReadyH.cons rfl (fun K hK => ?_) AllReadyH.nil
    go_simp
    refine hK.out _ _ trivial (fun hHeld => ?_)
    clear hK K
    try simp only [Act.put, List.getElem_toArray, List.getElem_cons_zero, List.getElem_cons_succ, List.setIfInBounds_toArray, List.set_cons_zero, List.set_cons_succ]
    have hmb := hI.len
    have hsv : (svar d).length ≤ 10 := svar_most hdi
    unfold svar at hsv
    have hsz := hb2'.size
    obtain ⟨v', w3, hap, g, cap, rfl, hrow, hg, hgr⟩ := rowB hr2 hI (by omega) A m c HA.out 26
    refine wpAnyH_ready (rs := [5]) (by kernel_rfl) (by simp) ?_
    refine AllReadyH.cons rfl (fun K hK => ?_) AllReadyH.nil
    refine step_run (by simp [Region.wanted]) _ _ 26 rfl (R := fun v' w' => v' = .slice (g.map fun b => ⟨b, 0, none⟩) (m + mb) cap ∧ w' = w3) ⟨_, _, hap, rfl, rfl⟩ ?_
    rintro v' w' ⟨rfl, rfl⟩
    refine hK.out _ _ trivial (fun hHeld => ?_)
    clear hK K
    try simp only [Act.put, List.getElem_toArray, List.getElem_cons_zero, List.getElem_cons_succ, List.setIfInBounds_toArray, List.set_cons_zero, List.set_cons_succ]
    have hag := Away.of_grown hgr
    have hlt2 := (Array.getElem?_eq_some_iff.1 h2).1
    have q3 := (hag.block _ hlt2 (fun e => hne _ e rfl)).trans h2
    have y0 : w'.cell? ⟨ob, 0, none⟩ = some r.sl := cell_of_row w' _ 0 _ _ _ q3
    have yf := free_of_row q3 0
    have Q3 := Lib.hid q3
    have H2 := Lib.hid h2
    clear q3 h2 x0 x1 hap
    refine wpAnyH_ready (rs := [6]) (by kernel_rfl) (by simp) ?_
    refine AllReadyH.cons rfl (fun K hK => ?_) AllReadyH.nil
    go_simp
    refine hK.out _ _ trivial (fun hHeld => ?_)
    clear hK K
    try simp only [Act.put, List.getElem_toArray, List.getElem_cons_zero, List.getElem_cons_succ, List.setIfInBounds_toArray, List.set_cons_zero, List.set_cons_succ]
    refine wpAnyH_done (by kernel_rfl) ?_ _
    go_wp2_with fail
    go_ret
    have hS := Away.setCell w' ⟨ob, 0, none⟩ (.slice (g.map fun b => ⟨b, 0, none⟩) (m + mb) cap)
    have hgn : ∀ b, g = some b → b ≠ ob := fun b hb e => by
      subst e
      rcases hg with e | e
      · rw [e] at hb; exact hne _ hb rfl
      · rw [e] at hb; injection hb with hb; omega
    have hm : m = r.c.1.length := by
      have := HA.out
      unfold Raw.sl at this
      simp at this
      exact this.2.1.symm
    have hsl : Raw.sl ⟨g, cap, (r.c.1 ++ uvarint (Lib.zigzag d), r.c.2)⟩ = .slice (g.map fun b => ⟨b, 0, none⟩) (m + mb) cap := by
      unfold Raw.sl
      rw [List.length_append, hmb, hm]
    refine ⟨rfl, ⟨g, cap, (r.c.1 ++ uvarint (Lib.zigzag d), r.c.2)⟩, ?_, hrow.away hS hgn, rfl, ?_, ?_⟩
    · rw [set_blk Q3.out 0, hsl]
      rfl
    · rcases hg with e | e
      · exact .inl e
      · exact .inr ⟨_, e, hsz⟩
    · refine ((Away.of_new hb2' _).trans hag fun b e => .inl (.inr e)).trans hS fun b e => .inl (.inl e)

end Go.Proofs.Ytebpdlggkncliaa
