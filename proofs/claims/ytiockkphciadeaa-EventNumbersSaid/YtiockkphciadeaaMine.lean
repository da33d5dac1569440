/-
  Bytes in a block of the call's own, that are written in place.
-/
import Derived.Test.YtiockkphciadeaaPlacesMath
namespace Go.Proofs.Ytiockkphciadeaa
open Go.RowKit
open Go.Lib (byteCells byteCells_length byteCells_append uvarint)

/-- Block g is the call's own, has c places, and begins with the bytes l. -/
def Mine (w : World) (g : Nat) (e : TypeId) (c : Nat) (l : List UInt8) : Prop :=
  ∃ cur : Array Value, w.heap[g]? = some (.cells cur e (0, 0)) ∧ cur.size = c ∧ l.length ≤ c ∧ cur.toList.take l.length = byteCells l
theorem own_mine {w : World} {base : Nat} {e : TypeId} {v : Value} {l : List UInt8} (h : Own w base e v l) (hl : 0 < l.length) :
    ∃ g c, v = .slice (some ⟨g, 0, none⟩) l.length c ∧ base ≤ g ∧ g < w.heap.size ∧ Mine w g e c l := by
  unfold Own at h
  rcases h.2 with ⟨_, hn⟩ | ⟨g, cap, cur, rfl, hb, hg, hnc, _, hcs, htake⟩
  · omega
  · exact ⟨g, cap, rfl, hb, (Array.getElem?_eq_some_iff.1 hg).1, cur, hg, by rw [hcs, Nat.mul_one], hnc, by rw [Nat.mul_one] at htake; exact htake⟩
theorem own_mine_at {w : World} {base : Nat} {e : TypeId} {v : Value} {l : List UInt8} {n : Nat} (h : Own w base e v l) (hn : l.length = n) (hl : 0 < n) :
    ∃ g c, v = .slice (some ⟨g, 0, none⟩) n c ∧ base ≤ g ∧ g < w.heap.size ∧ Mine w g e c l := by
  subst hn
  exact own_mine h hl
theorem Mine.cell {w : World} {g : Nat} {e : TypeId} {c : Nat} {l : List UInt8} (h : Mine w g e c l) {k : Nat} {u : UInt8} (hk : l[k]? = some u) : w.cell? ⟨g, k, none⟩ = some (.int .u8 (u.toNat : Int)) := by
  obtain ⟨cur, hg, hs, hc, ht⟩ := h
  rw [cell_of_row w g k cur e (0, 0) hg]
  have hkl := (List.getElem?_eq_some_iff.1 hk).1
  have h1 : (cur.toList.take l.length)[k]? = some (.int .u8 (u.toNat : Int)) := by rw [ht, byteCells, List.getElem?_map, hk]; rfl
  rw [List.getElem?_take_of_lt hkl, Array.getElem?_toList] at h1
  exact h1
theorem Mine.free {w : World} {g : Nat} {e : TypeId} {c : Nat} {l : List UInt8} (h : Mine w g e c l) (k : Nat) : w.frozen? ⟨g, k, none⟩ = false := by
  obtain ⟨cur, hg, _⟩ := h
  simp [World.frozen?, hg]
theorem Mine.is_ {w : World} {g : Nat} {e : TypeId} {c : Nat} {l : List UInt8} (h : Mine w g e c l) {n : Nat} (hn : l.length = n) : IsB w (some ⟨g, 0, none⟩) n c l := by
  refine ⟨hn, ?_, (fun h => by cases h), .inr ⟨g, 0, rfl, fun j u hj => by rw [Nat.zero_add]; exact h.cell hj⟩⟩
  obtain ⟨_, _, _, hc, _⟩ := h
  omega
theorem Mine.below {w w' : World} {g : Nat} {e : TypeId} {c : Nat} {l : List UInt8} (h : Mine w g e c l) (hb : Below w.heap.size w w') : Mine w' g e c l := by
  obtain ⟨cur, hg, hr⟩ := h
  exact ⟨cur, (hb.block g (Array.getElem?_eq_some_iff.1 hg).1).trans hg, hr⟩
theorem Mine.drew {w : World} {g : Nat} {e : TypeId} {c : Nat} {l : List UInt8} (h : Mine w g e c l) : Mine w.drew g e c l := h
theorem Mine.far {w : World} {g : Nat} {e : TypeId} {c : Nat} {l : List UInt8} (h : Mine w g e c l) {p : Addr} (hp : g ≠ p.block) (u : Value) : Mine (w.setCell p u) g e c l := by
  obtain ⟨cur, hg, hr⟩ := h
  exact ⟨cur, (Below.heap_setCell w p u g hp).trans hg, hr⟩
theorem Mine.put {w : World} {g : Nat} {e : TypeId} {c : Nat} {l : List UInt8} (h : Mine w g e c l) (k : Nat) (u : UInt8) (q : Int) (hq : (u.toNat : Int) = q) : Mine (w.setCell ⟨g, k, none⟩ (.int .u8 q)) g e c (l.set k u) := by
  subst hq
  obtain ⟨cur, hg, hs, hc, ht⟩ := h
  refine ⟨cur.setIfInBounds k (.int .u8 (u.toNat : Int)), ?_, by rw [Array.size_setIfInBounds, hs], by rw [List.length_set]; exact hc, ?_⟩
  · simp [World.setCell, Array.getElem?_modify, hg]
  · rw [List.length_set, Array.toList_setIfInBounds, List.take_set, ht, byteCells, byteCells, List.map_set]
theorem below_put {B : Nat} {w w' : World} (h : Below B w w') {p : Addr} (hp : B ≤ p.block) (u : Value) : Below B w (w'.setCell p u) := h.setCell hp u
end Go.Proofs.Ytiockkphciadeaa
