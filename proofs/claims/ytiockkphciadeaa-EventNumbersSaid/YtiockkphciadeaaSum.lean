/-
  The sum: halvedFourTimes, laidOut, Crc, Seal, Unseal.
-/
import Derived.Test.YtiockkphciadeaaLeaf
import Derived.Test.YtiockkphciadeaaMem
import Derived.Lib.Hide
import Derived.Handy
namespace Go.Proofs.Ytiockkphciadeaa
open Go.RowKit
open Go.Lib (byteCells byteCells_length byteCells_append)

/-- the table, filled up to the place j -/
def tabUp (j : Nat) : Array Value := (Array.range 16).map fun i => Value.int .u32 ((if i < j then halveN 4 i else 0 : Nat) : Int)
def theTab : Array Value := tabUp 16
theorem tabUp_get {j i : Nat} (hi : i < 16) : (tabUp j)[i]? = some (Value.int .u32 ((if i < j then halveN 4 i else 0 : Nat) : Int)) := by
  unfold tabUp
  rw [Array.getElem?_map, Array.getElem?_range, if_pos hi]
  rfl
theorem tab0 : tabUp 0 = #[.int .u32 0, .int .u32 0, .int .u32 0, .int .u32 0, .int .u32 0, .int .u32 0, .int .u32 0, .int .u32 0, .int .u32 0, .int .u32 0, .int .u32 0, .int .u32 0, .int .u32 0, .int .u32 0, .int .u32 0, .int .u32 0] := by kernel_rfl
theorem tabUp_set {j : Nat} : (tabUp j).setIfInBounds j (Value.int .u32 (halveN 4 j : Int)) = tabUp (j + 1) := by
  apply Array.ext_getElem?
  intro i
  by_cases hi : i < 16
  · by_cases he : j = i
    · subst he
      rw [Array.getElem?_setIfInBounds_self_of_lt (by simp [tabUp]; omega), tabUp_get hi, if_pos (by omega)]
    · rw [Array.getElem?_setIfInBounds_ne he, tabUp_get hi, tabUp_get hi]
      by_cases hlt : i < j
      · rw [if_pos hlt, if_pos (by omega)]
      · rw [if_neg hlt, if_neg (by omega)]
  · rw [Array.getElem?_eq_none (by simp [tabUp]; omega), Array.getElem?_eq_none (by simp [tabUp]; omega)]

/-- block g is just these cells -/
def Row (w : World) (g : Nat) (t : TypeId) (cs : Array Value) : Prop := w.heap[g]? = some (.cells cs t (0, 0))
theorem Row.lt {w : World} {g : Nat} {t : TypeId} {cs : Array Value} (h : Row w g t cs) : g < w.heap.size := by
  rcases Nat.lt_or_ge g w.heap.size with hlt | hge
  · exact hlt
  · unfold Row at h; rw [Array.getElem?_eq_none hge] at h; cases h
theorem Row.cell {w : World} {g : Nat} {t : TypeId} {cs : Array Value} (h : Row w g t cs) (i : Nat) : w.cell? ⟨g, i, none⟩ = cs[i]? := cell_of_row w g i cs t (0, 0) h
theorem Row.free {w : World} {g : Nat} {t : TypeId} {cs : Array Value} (h : Row w g t cs) (i : Nat) : w.frozen? ⟨g, i, none⟩ = false := by
  unfold Row at h
  simp [World.frozen?, h]
theorem Row.new (w : World) (t : TypeId) (cs : Array Value) : Row (w.alloc (.cells cs t)) w.heap.size t cs := heap_alloc_new w _
theorem Row.new_ {w : World} {g : Nat} (h : w.heap.size = g) (t : TypeId) (cs : Array Value) : Row (w.alloc (.cells cs t)) g t cs := by subst h; exact heap_alloc_new w _
theorem Row.below {w w' : World} {g : Nat} {t : TypeId} {cs : Array Value} (h : Row w g t cs) (hb : Below w.heap.size w w') : Row w' g t cs := (hb.block g h.lt).trans h
theorem Row.alloc {w : World} {g : Nat} {t : TypeId} {cs : Array Value} (h : Row w g t cs) (o : Obj) : Row (w.alloc o) g t cs := h.below ((Below.refl _ _).alloc (Nat.le_refl _) o)
theorem Row.far {w : World} {g : Nat} {t : TypeId} {cs : Array Value} (h : Row w g t cs) {p : Addr} (hp : g ≠ p.block) (u : Value) : Row (w.setCell p u) g t cs := (Below.heap_setCell w p u g hp).trans h
theorem Row.put {w : World} {g : Nat} {t : TypeId} {cs : Array Value} (h : Row w g t cs) (i : Nat) (u : Value) : Row (w.setCell ⟨g, i, none⟩ u) g t (cs.setIfInBounds i u) := by
  unfold Row at h ⊢
  simp [World.setCell, Array.getElem?_modify, h]

/-- a row stored over a row -/
theorem run_store_row {P : Program} {w : World} {g : Nat} {t : TypeId} {old cs : Array Value} (h : Row w g t old) (hs : cs.size = old.size) (h1 : ∀ v ∈ cs.toList, v.oneCell' = true) :
    (storeCells ⟨g, 0, none⟩ cs.toList).run P w = .ok () (w.setRow g cs) := by
  have hr := run_storeCells_at (P := P) g 0 t cs.toList 0 old w h (by simp; omega) h1
  have e : (old.toList.take (0 + 0) ++ cs.toList ++ old.toList.drop (0 + 0 + cs.toList.length)).toArray = cs := by
    rw [List.drop_of_length_le (by simp; omega)]
    simp
  rw [hr, e]
theorem Row.over {w : World} {g : Nat} {t : TypeId} {old cs : Array Value} (h : Row w g t old) : Row (w.setRow g cs) g t cs := setRow_heap w g old cs t (0, 0) h
theorem below_setRow {B : Nat} {w w' : World} {g : Nat} (cs : Array Value) (h : Below B w w') (hg : B ≤ g) : Below B w (w'.setRow g cs) :=
  h.trans ⟨rfl, rfl, rfl, by simp, fun k hk => setRow_other w' g k cs (by omega)⟩
theorem tabUp_one (j : Nat) : ∀ v ∈ (tabUp j).toList, v.oneCell' = true := by
  intro v hv
  simp only [tabUp, Array.toList_map, List.mem_map] at hv
  obtain ⟨i, _, rfl⟩ := hv
  rfl

set_option maxRecDepth 100000 in
set_option maxHeartbeats 400000 in
theorem halvedFour_any (w : World) :
    Calls Try.prog 122 #[] w fun e w' => e = .returned (.agg theTab) ∧ Below w.heap.size w w' := by
  go_enter Try.func122, Try.ntmps122
  go_wp2_with fail
  go_loopw [2, 3, 4] (fun _ _ i wr => ∃ j : Nat, i = .int .i64 (j : Int) ∧ j ≤ 16 ∧ Row wr (w.heap.size + 1) 159 (tabUp j) ∧ Below w.heap.size w wr ∧ w.heap.size + 1 < wr.heap.size ∧ Row wr w.heap.size 159 (tabUp 0)) (fun _ _ i _ => 16 - (intOf i).toNat)
  case atStart => rw [tab0]; exact ⟨0, rfl, by omega, by rw [tab0]; exact Row.new_ (by simp) _ _, ((Below.refl _ _).alloc (Nat.le_refl _) _).alloc (by simp) _, by simp, (Row.new _ _ _).alloc _⟩
  case round =>
    obtain ⟨j, rfl, hj, hR, hB, hz, hR0⟩ := hrel
    obtain ⟨wo, rfl⟩ : ∃ wo : World, wo = wr := ⟨_, rfl⟩
    by_cases hj16 : j < 16
    · have hcell := (hR.cell j).trans (tabUp_get hj16)
      have hfz := hR.free j
      have hjd : decide ((j : Int) < 16) = true := by simp; omega
      rw [if_neg (by omega)] at hcell
      go_wp2_with fail
      go_loop [3, 9] (fun v q => ∃ i : Nat, q = .int .i64 (i : Int) ∧ i ≤ 4 ∧ v = .int .u32 (halveN i j : Int)) (fun _ q => 4 - (intOf q).toNat)
      case atStart => exact ⟨0, rfl, by omega, rfl⟩
      case round =>
        obtain ⟨i, rfl, hi, rfl⟩ := hrel
        have hlt := halveN_lt i (u := j) (by omega)
        by_cases hi4 : i < 4
        · have H := Lib.hid (halveN_succ i j)
          generalize halveN i j = v at hlt H
          go_wp2_with (go_at_call 130; refine (halve_any v _ hlt).mono ?_; rintro e w' ⟨rfl, rfl⟩)
          go_round
          case rel => exact ⟨i + 1, by go_num, by omega, by rw [H.out]⟩
          case measure => simp [intOf]; omega
        · obtain rfl : i = 4 := by omega
          clear hlt
          have HS := Lib.hid (tabUp_set (j := j))
          generalize halveN 4 j = v at HS
          go_wp2_with fail
          go_roundw
          case rel => exact ⟨j + 1, by go_num, by omega, by rw [← HS.out]; exact hR.put j _, hB.setCell (by simp) _, by simpa using hz, hR0.far (by simp) _⟩
          case measure => simp [intOf]; omega
    · obtain rfl : j = 16 := by omega
      have hsz : (tabUp 16).size = 16 := by simp [tabUp]
      have hst := run_store_row (P := Try.prog) hR0 (cs := tabUp 16) (by simp [tabUp]) (tabUp_one 16)
      go_wp2_with (refine wpList_load_row rfl 159 _ rfl _ rfl _ _ _ _ hR rfl rfl (by kernel_rfl) ?_)
      have hb := below_setRow (tabUp 16) hB (Nat.le_refl _)
      exact bodyPost_ret (results_cell_row rfl _ _ w.heap.size _ _ _ _ rfl (hR0.over (cs := tabUp 16)) rfl rfl (by kernel_rfl)) rfl ⟨rfl, hb⟩

theorem laidOut_any (s : Nat) (w : World) (hs : s < 4294967296) :
    Calls Try.prog 93 #[.int .u32 (s : Int)] w fun e w' => e = .returned (.agg #[.int .u8 ((s : Int) / 16777216), .int .u8 ((s : Int) / 65536 % 256), .int .u8 ((s : Int) / 256 % 256), .int .u8 ((s : Int) % 256)]) ∧ Below w.heap.size w w' := by
  go_enter Try.func93, Try.ntmps93
  go_wp2_with fail
  go_rounds 5
  refine bodyPost_ret (v := .agg #[.int .u8 ((s : Int) / 16777216), .int .u8 ((s : Int) / 65536 % 256), .int .u8 ((s : Int) / 256 % 256), .int .u8 ((s : Int) % 256)]) (by simp [results, Try.results93, go_sem]) rfl ⟨rfl, ?_⟩
  go_grown
end Go.Proofs.Ytiockkphciadeaa
