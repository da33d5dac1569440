/-
  Events in memory.
-/
import Derived.Test.YtiockkphciadeaaEvMath
import Derived.Test.YtiockkphciadeaaAway
import Derived.Test.YtiockkphciadeaaUnseal
import Derived.Deep.RegionHeld3
set_option linter.unusedVariables false
namespace Go.Proofs.Ytiockkphciadeaa
open Go.RowKit
open Go.Lib (byteCells byteCells_length byteCells_append uvarint)

def Ev.cells (e : Ev) : List Value := [.int .i64 e.th, .int .u8 (e.op : Int), .int .i64 e.obj, .int .i64 e.a, .int .i64 e.b]
/-- an event by value -/
abbrev Ev.val (e : Ev) : Value := .agg #[.int .i64 e.th, .int .u8 (e.op : Int), .int .i64 e.obj, .int .i64 e.a, .int .i64 e.b]
/-- a slice of events holds these -/
structure IsEv (w : World) (A : Option Addr) (n c : Nat) (es : List Ev) : Prop where
  len : es.length = n
  cap : n ≤ c
  none_ : A = none → c = 0
  src : es = [] ∨ ∃ b o, A = some ⟨b, o, none⟩ ∧ ∀ j x, es[j]? = some x → ∀ f u, x.cells[f]? = some u → w.cell? ⟨b, o + j * 5 + f, none⟩ = some u
theorem IsEv.nil (w : World) : IsEv w none 0 0 [] := ⟨rfl, Nat.le_refl _, fun _ => rfl, .inl rfl⟩
theorem IsEv.below {w w' : World} {A : Option Addr} {n c : Nat} {es : List Ev} (h : IsEv w A n c es) (hb : Below w.heap.size w w') : IsEv w' A n c es := by
  refine ⟨h.len, h.cap, h.none_, ?_⟩
  rcases h.src with h0 | ⟨b, o, hA, hc⟩
  · exact .inl h0
  · exact .inr ⟨b, o, hA, fun j x hj f u hu => cell_below hb _ _ (hc j x hj f u hu)⟩
theorem IsEv.away {F : Nat → Prop} {w w' : World} {A : Option Addr} {n c : Nat} {es : List Ev} (h : IsEv w A n c es) (ha : Away F w w') (hf : ∀ ad, A = some ad → ¬ F ad.block) : IsEv w' A n c es := by
  refine ⟨h.len, h.cap, h.none_, ?_⟩
  rcases h.src with h0 | ⟨b, o, hA, hc⟩
  · exact .inl h0
  · refine .inr ⟨b, o, hA, fun j x hj f u hu => ?_⟩
    have hx := hc j x hj f u hu
    exact (World.cell?_of_block (ha.block b (block_lt_of_cell hx) (hf _ hA))).trans hx
/-- the one event's cells -/
theorem IsEv.at_ {w : World} {A : Option Addr} {n c : Nat} {es : List Ev} (h : IsEv w A n c es) {j : Nat} (hj : j < n) :
    ∃ b o x, A = some ⟨b, o, none⟩ ∧ es[j]? = some x ∧ w.cell? ⟨b, o + j * 5, none⟩ = some (.int .i64 x.th) ∧ w.cell? ⟨b, o + j * 5 + 1, none⟩ = some (.int .u8 (x.op : Int)) ∧
      w.cell? ⟨b, o + j * 5 + 2, none⟩ = some (.int .i64 x.obj) ∧ w.cell? ⟨b, o + j * 5 + 3, none⟩ = some (.int .i64 x.a) ∧ w.cell? ⟨b, o + j * 5 + 4, none⟩ = some (.int .i64 x.b) := by
  have hl := h.len
  have hx : es[j]? = some (es[j]'(by omega)) := List.getElem?_eq_getElem (by omega)
  rcases h.src with h0 | ⟨b, o, hA, hc⟩
  · rw [h0] at hl; simp at hl; omega
  · exact ⟨b, o, _, hA, hx, hc j _ hx 0 _ rfl, hc j _ hx 1 _ rfl, hc j _ hx 2 _ rfl, hc j _ hx 3 _ rfl, hc j _ hx 4 _ rfl⟩
end Go.Proofs.Ytiockkphciadeaa
