/-
  awake: the chapter's examples come out as written.
-/
import Derived.Test.YtiockkphciadeaaAwake
import Derived.Lib.SlBytesConst
set_option linter.unusedSimpArgs false
namespace Go.Proofs.Ytiockkphciadeaa
open Go.RowKit
open Go.Lib (byteCells byteCells_length byteCells_append uvarint uvarint_small uvarint_big)

/-- bytes that were just laid in a block of their own -/
theorem new_is (w : World) (t : TypeId) (fr : Nat × Nat) (l : List UInt8) (n : Nat) (cs : Array Value) (h : cs = (byteCells l).toArray) (hn : l.length = n) :
    IsB (w.alloc (.cells cs t fr)) (some ⟨w.heap.size, 0, none⟩) n n l := by
  refine ⟨hn, Nat.le_refl _, (fun h => by cases h), .inr ⟨w.heap.size, 0, rfl, fun j u hj => ?_⟩⟩
  rw [cell_of_row (w.alloc (.cells cs t fr)) w.heap.size (0 + j) cs t fr (heap_alloc_new w _), h, Nat.zero_add, List.getElem?_toArray, byteCells, List.getElem?_map, hj]
  rfl
theorem bstep {w w1 w2 : World} {o : Obj} (h : Below w.heap.size w w1) (h2 : Below (w1.alloc o).heap.size (w1.alloc o) w2) : Below w.heap.size w w2 :=
  (h.alloc h.size o).trans (h2.mono (by have := h.size; simp; omega))
theorem bstep0 {w w1 w2 : World} (h : Below w.heap.size w w1) (h2 : Below w1.heap.size w1 w2) : Below w.heap.size w w2 := h.trans (h2.mono h.size)

theorem uv127 : uvarint 127 = [127] := uvarint_small (by decide)
theorem uv0 : uvarint 0 = [0] := uvarint_small (by decide)
theorem uv128 : uvarint 128 = [128, 1] := by rw [uvarint_big (by decide), uvarint_small (by decide)]; rfl
theorem uv300 : uvarint 300 = [172, 2] := by rw [uvarint_big (by decide), uvarint_small (by decide)]; rfl
theorem uv2 : uvarint 2 = [2] := uvarint_small (by decide)

theorem crc_lit (l : List UInt8) (m q : Nat) (x : Int) (cs : Array Value) (w : World) (t : TypeId) (fr : Nat × Nat) (hx : x = (q : Int)) (hq : crc l = q) (hcs : cs = (byteCells l).toArray) (hm : l.length = m) (hb : m ≤ 100) :
    Calls Try.prog 94 #[.slice (some ⟨w.heap.size, 0, none⟩) m m] (w.alloc (.cells cs t fr)).drew fun e w' => e = .returned (.int .u32 x) ∧ Below (w.alloc (.cells cs t fr)).heap.size (w.alloc (.cells cs t fr)) w' := by
  subst hx
  refine (crc_any _ m m l _ (new_is w t fr l m cs hcs hm).drew (by omega)).mono ?_
  rintro e w' ⟨rfl, hb⟩
  exact ⟨by rw [hq], (Below.refl _ _).drew.trans hb⟩
theorem seal_nil (w : World) : Calls Try.prog 46 #[.slice none 0 0] w fun e w' =>
    ∃ A m c, e = .returned (.slice A m c) ∧ IsB w' A m c [0, 0, 0, 0] ∧ Below w.heap.size w w' :=
  (seal_any none 0 0 [] w (IsB.nil w) (by decide)).mono fun e w' h => by
    obtain ⟨v, he, ho, hb⟩ := h
    obtain ⟨A, m, c, rfl, hi⟩ := own_slice ho
    exact ⟨A, m, c, he, hi, hb⟩

end Go.Proofs.Ytiockkphciadeaa
