/-
  A disk that New did not make: what each call answers; DiskNone.
-/
import Derived.Test.YtdcflgblaljdeaaDkAwake
import Derived.Outline
set_option linter.unusedVariables false
set_option linter.unusedSimpArgs false
namespace Go.Proofs.Ytdcflgblaljdeaa
open Go.RowKit Go.Maps

/-- no disk, or one of zeros -/
def NoD (w : World) (p : Option Addr) : Prop := p = none ∨ ∃ b, p = some ⟨b, 0, none⟩ ∧ w.heap[b]? = some (.cells #[.int .i64 0, .int .i64 0, .map none, .bool false, .int .i64 0, .bool false] 63)
theorem NoD.below {w w' : World} {p : Option Addr} (h : NoD w p) (hb : Below w.heap.size w w') : NoD w' p := by
  rcases h with h | ⟨b, h, hk⟩
  · exact .inl h
  · exact .inr ⟨b, h, (hb.block b (Array.getElem?_eq_some_iff.1 hk).1).trans hk⟩

set_option maxRecDepth 100000 in
theorem made_no {w : World} {p : Option Addr} (h : NoD w p) : Calls Try.prog 62 #[.pointer p] w fun e w' => e = .returned (.bool false) ∧ w = w' := by
  rcases h with rfl | ⟨b, rfl, hk⟩
  · go_enter Try.func62, Try.ntmps62
    go_wp2_with fail
    go_ret
    exact ⟨rfl, rfl⟩
  · have c2 : w.cell? ⟨b, 2, none⟩ = some (.map none) := cell_of_row w _ 2 _ _ _ hk
    have qn := fun (w : World) => run_neq_map_nil (P := Try.prog) w 61 _ _ none Try.underlying61
    go_enter Try.func62, Try.ntmps62
    go_wp2_with fail
    go_ret
    exact ⟨rfl, rfl⟩
set_option maxRecDepth 100000 in
theorem ready_no {w : World} {p : Option Addr} (h : NoD w p) : Calls Try.prog 54 #[.pointer p] w fun e w' => e = .returned (.int .i64 1) ∧ w = w' := by
  go_enter Try.func54, Try.ntmps54
  go_wp2_with fail
  refine (made_no h).mono ?_
  rintro e w' ⟨rfl, rfl⟩
  go_wp2_with fail
  go_ret
  exact ⟨rfl, rfl⟩
set_option maxRecDepth 100000 in
theorem find_no {w : World} {p : Option Addr} (h : NoD w p) (s : ByteArray) : Calls Try.prog 59 #[.pointer p, .string s] w fun e w' => e = .returned (.tuple #[.agg #[.slice none 0 0, .int .i64 0], .int .i64 1]) ∧ Below w.heap.size w w' := by
  have hb := (Below.refl w.heap.size w).alloc (Nat.le_refl _) (.cells #[.slice none 0 0, .int .i64 0] 97)
  go_enter Try.func59, Try.ntmps59
  go_wp2_with fail
  refine (ready_no (h.below hb)).mono ?_
  rintro e w' ⟨rfl, rfl⟩
  go_wp2_with fail
  refine bodyPost_ret (v := .tuple #[.agg #[.slice none 0 0, .int .i64 0], .int .i64 1]) (by simp [results, Try.results59, go_sem]) rfl ⟨rfl, ?_⟩
  exact hb
set_option maxRecDepth 100000 in
theorem no_arm {w : World} {p : Option Addr} (h : NoD w p) (n : Int) : Calls Try.prog 25 #[.pointer p, .int .i64 n] w fun e w' => e = .returned (.tuple #[]) ∧ Below w.heap.size w w' := by
  go_enter Try.func25, Try.ntmps25
  go_wp2_with fail
  refine Calls.mono (made_no (h.below ?hb)) ?_
  case hb => exact (by repeat' first | exact Below.refl _ _ | (refine Below.alloc ?_ (by first | exact Nat.le_refl _ | (simp; done) | (simp; omega)) _))
  rintro e w' ⟨rfl, rfl⟩
  go_wp2_with fail
  refine bodyPost_ret (results_none rfl _ _ _) rfl ?_
  exact ⟨rfl, by (repeat' first | exact Below.refl _ _ | (refine Below.alloc ?_ (by first | exact Nat.le_refl _ | (simp; done) | (simp; omega)) _))⟩
set_option maxRecDepth 100000 in
theorem no_crash {w : World} {p : Option Addr} (h : NoD w p) (A : Option Addr) (n c : Nat) : Calls Try.prog 29 #[.pointer p, .slice A n c] w fun e w' => e = .returned (.tuple #[]) ∧ Below w.heap.size w w' := by
  go_enter Try.func29, Try.ntmps29
  go_wp2_with fail
  refine Calls.mono (made_no (h.below ?hb)) ?_
  case hb => exact (by repeat' first | exact Below.refl _ _ | (refine Below.alloc ?_ (by first | exact Nat.le_refl _ | (simp; done) | (simp; omega)) _))
  rintro e w' ⟨rfl, rfl⟩
  go_wp2_with fail
  refine bodyPost_ret (results_none rfl _ _ _) rfl ?_
  exact ⟨rfl, by (repeat' first | exact Below.refl _ _ | (refine Below.alloc ?_ (by first | exact Nat.le_refl _ | (simp; done) | (simp; omega)) _))⟩
set_option maxRecDepth 100000 in
theorem no_down {w : World} {p : Option Addr} (h : NoD w p) : Calls Try.prog 28 #[.pointer p] w fun e w' => e = .returned (.bool false) ∧ Below w.heap.size w w' := by
  go_enter Try.func28, Try.ntmps28
  go_wp2_with fail
  refine Calls.mono (made_no (h.below ?hb)) ?_
  case hb => exact (by repeat' first | exact Below.refl _ _ | (refine Below.alloc ?_ (by first | exact Nat.le_refl _ | (simp; done) | (simp; omega)) _))
  rintro e w' ⟨rfl, rfl⟩
  go_wp2_with fail
  go_ret
  exact ⟨rfl, by (repeat' first | exact Below.refl _ _ | (refine Below.alloc ?_ (by first | exact Nat.le_refl _ | (simp; done) | (simp; omega)) _))⟩
set_option maxRecDepth 100000 in
theorem no_used {w : World} {p : Option Addr} (h : NoD w p) : Calls Try.prog 23 #[.pointer p] w fun e w' => e = .returned (.int .i64 0) ∧ Below w.heap.size w w' := by
  go_enter Try.func23, Try.ntmps23
  go_wp2_with fail
  refine Calls.mono (made_no (h.below ?hb)) ?_
  case hb => exact (by repeat' first | exact Below.refl _ _ | (refine Below.alloc ?_ (by first | exact Nat.le_refl _ | (simp; done) | (simp; omega)) _))
  rintro e w' ⟨rfl, rfl⟩
  go_wp2_with fail
  go_ret
  exact ⟨rfl, by (repeat' first | exact Below.refl _ _ | (refine Below.alloc ?_ (by first | exact Nat.le_refl _ | (simp; done) | (simp; omega)) _))⟩
set_option maxRecDepth 100000 in
theorem no_list {w : World} {p : Option Addr} (h : NoD w p) : Calls Try.prog 27 #[.pointer p] w fun e w' => e = .returned (.slice none 0 0) ∧ Below w.heap.size w w' := by
  go_enter Try.func27, Try.ntmps27
  go_wp2_with fail
  refine Calls.mono (made_no (h.below ?hb)) ?_
  case hb => exact (by repeat' first | exact Below.refl _ _ | (refine Below.alloc ?_ (by first | exact Nat.le_refl _ | (simp; done) | (simp; omega)) _))
  rintro e w' ⟨rfl, rfl⟩
  go_wp2_with fail
  go_ret
  exact ⟨rfl, by (repeat' first | exact Below.refl _ _ | (refine Below.alloc ?_ (by first | exact Nat.le_refl _ | (simp; done) | (simp; omega)) _))⟩
set_option maxRecDepth 100000 in
theorem no_size {w : World} {p : Option Addr} (h : NoD w p) (s : ByteArray) : Calls Try.prog 43 #[.pointer p, .string s] w fun e w' => e = .returned (.int .i64 0) ∧ Below w.heap.size w w' := by
  go_enter Try.func43, Try.ntmps43
  go_wp2_with fail
  refine Calls.mono (made_no (h.below ?hb)) ?_
  case hb => exact (by repeat' first | exact Below.refl _ _ | (refine Below.alloc ?_ (by first | exact Nat.le_refl _ | (simp; done) | (simp; omega)) _))
  rintro e w' ⟨rfl, rfl⟩
  go_wp2_with fail
  go_ret
  exact ⟨rfl, by (repeat' first | exact Below.refl _ _ | (refine Below.alloc ?_ (by first | exact Nat.le_refl _ | (simp; done) | (simp; omega)) _))⟩
set_option maxRecDepth 100000 in
theorem no_synced {w : World} {p : Option Addr} (h : NoD w p) (s : ByteArray) : Calls Try.prog 19 #[.pointer p, .string s] w fun e w' => e = .returned (.int .i64 0) ∧ Below w.heap.size w w' := by
  go_enter Try.func19, Try.ntmps19
  go_wp2_with fail
  refine Calls.mono (made_no (h.below ?hb)) ?_
  case hb => exact (by repeat' first | exact Below.refl _ _ | (refine Below.alloc ?_ (by first | exact Nat.le_refl _ | (simp; done) | (simp; omega)) _))
  rintro e w' ⟨rfl, rfl⟩
  go_wp2_with fail
  go_ret
  exact ⟨rfl, by (repeat' first | exact Below.refl _ _ | (refine Below.alloc ?_ (by first | exact Nat.le_refl _ | (simp; done) | (simp; omega)) _))⟩
set_option maxRecDepth 100000 in
theorem no_append {w : World} {p : Option Addr} (h : NoD w p) (s : ByteArray) (A : Option Addr) (n c : Nat) : Calls Try.prog 15 #[.pointer p, .string s, .slice A n c] w fun e w' => e = .returned (.int .i64 1) ∧ Below w.heap.size w w' := by
  go_enter Try.func15, Try.ntmps15
  go_wp2_with fail
  refine Calls.mono (ready_no (h.below ?hb)) ?_
  case hb => exact (by repeat' first | exact Below.refl _ _ | (refine Below.alloc ?_ (by first | exact Nat.le_refl _ | (simp; done) | (simp; omega)) _))
  rintro e w' ⟨rfl, rfl⟩
  go_wp2_with fail
  go_ret
  exact ⟨rfl, by (repeat' first | exact Below.refl _ _ | (refine Below.alloc ?_ (by first | exact Nat.le_refl _ | (simp; done) | (simp; omega)) _))⟩
set_option maxRecDepth 100000 in
theorem no_read {w : World} {p : Option Addr} (h : NoD w p) (s : ByteArray) : Calls Try.prog 16 #[.pointer p, .string s] w fun e w' => e = .returned (.tuple #[.slice none 0 0, .int .i64 1]) ∧ Below w.heap.size w w' := by
  go_enter Try.func16, Try.ntmps16
  go_wp2_with fail
  refine Calls.mono (find_no (h.below ?hb) s) ?_
  case hb => exact (by repeat' first | exact Below.refl _ _ | (refine Below.alloc ?_ (by first | exact Nat.le_refl _ | (simp; done) | (simp; omega)) _))
  rintro e w' ⟨rfl, hb'⟩
  go_wp2_with fail
  go_ret2
  exact ⟨rfl, (bst (by (repeat' first | exact Below.refl _ _ | (refine Below.alloc ?_ (by first | exact Nat.le_refl _ | (simp; done) | (simp; omega)) _))) hb').alloc (by have := hb'.size; simp at this ⊢; omega) _⟩
set_option maxRecDepth 100000 in
theorem no_sync {w : World} {p : Option Addr} (h : NoD w p) (s : ByteArray) : Calls Try.prog 20 #[.pointer p, .string s] w fun e w' => e = .returned (.int .i64 1) ∧ Below w.heap.size w w' := by
  go_enter Try.func20, Try.ntmps20
  go_wp2_with fail
  refine Calls.mono (find_no (h.below ?hb) s) ?_
  case hb => exact (by repeat' first | exact Below.refl _ _ | (refine Below.alloc ?_ (by first | exact Nat.le_refl _ | (simp; done) | (simp; omega)) _))
  rintro e w' ⟨rfl, hb'⟩
  go_wp2_with fail
  go_ret
  exact ⟨rfl, (bst (by (repeat' first | exact Below.refl _ _ | (refine Below.alloc ?_ (by first | exact Nat.le_refl _ | (simp; done) | (simp; omega)) _))) hb').alloc (by have := hb'.size; simp at this ⊢; omega) _⟩
set_option maxRecDepth 100000 in
theorem no_remove {w : World} {p : Option Addr} (h : NoD w p) (s : ByteArray) : Calls Try.prog 21 #[.pointer p, .string s] w fun e w' => e = .returned (.int .i64 1) ∧ Below w.heap.size w w' := by
  go_enter Try.func21, Try.ntmps21
  go_wp2_with fail
  refine Calls.mono (find_no (h.below ?hb) s) ?_
  case hb => exact (by repeat' first | exact Below.refl _ _ | (refine Below.alloc ?_ (by first | exact Nat.le_refl _ | (simp; done) | (simp; omega)) _))
  rintro e w' ⟨rfl, hb'⟩
  go_wp2_with fail
  go_ret
  exact ⟨rfl, (bst (by (repeat' first | exact Below.refl _ _ | (refine Below.alloc ?_ (by first | exact Nat.le_refl _ | (simp; done) | (simp; omega)) _))) hb').alloc (by have := hb'.size; simp at this ⊢; omega) _⟩
set_option maxRecDepth 100000 in
theorem no_cut {w : World} {p : Option Addr} (h : NoD w p) (s : ByteArray) (n : Int) : Calls Try.prog 18 #[.pointer p, .string s, .int .i64 n] w fun e w' => e = .returned (.int .i64 1) ∧ Below w.heap.size w w' := by
  go_enter Try.func18, Try.ntmps18
  go_wp2_with fail
  refine Calls.mono (find_no (h.below ?hb) s) ?_
  case hb => exact (by repeat' first | exact Below.refl _ _ | (refine Below.alloc ?_ (by first | exact Nat.le_refl _ | (simp; done) | (simp; omega)) _))
  rintro e w' ⟨rfl, hb'⟩
  go_wp2_with fail
  go_ret
  exact ⟨rfl, (bst (by (repeat' first | exact Below.refl _ _ | (refine Below.alloc ?_ (by first | exact Nat.le_refl _ | (simp; done) | (simp; omega)) _))) hb').alloc (by have := hb'.size; simp at this ⊢; omega) _⟩
set_option maxRecDepth 100000 in
theorem no_rename {w : World} {p : Option Addr} (h : NoD w p) (s t : ByteArray) : Calls Try.prog 22 #[.pointer p, .string s, .string t] w fun e w' => e = .returned (.int .i64 1) ∧ Below w.heap.size w w' := by
  go_enter Try.func22, Try.ntmps22
  go_wp2_with fail
  refine Calls.mono (find_no (h.below ?hb) s) ?_
  case hb => exact (by repeat' first | exact Below.refl _ _ | (refine Below.alloc ?_ (by first | exact Nat.le_refl _ | (simp; done) | (simp; omega)) _))
  rintro e w' ⟨rfl, hb'⟩
  go_wp2_with fail
  go_ret
  exact ⟨rfl, (bst (by (repeat' first | exact Below.refl _ _ | (refine Below.alloc ?_ (by first | exact Nat.le_refl _ | (simp; done) | (simp; omega)) _))) hb').alloc (by have := hb'.size; simp at this ⊢; omega) _⟩

set_option maxRecDepth 100000 in
set_option maxHeartbeats 2000000 in
theorem none_walk (w : World) (s : ByteArray) (n : Int) (A : Option Addr) (m c : Nat) :
    Calls Try.prog 5 #[.string s, .int .i64 n, .slice A m c] w fun e w' => e = .returned (.bool true) ∧ Below w.heap.size w w' := by
  go_enter Try.func5, Try.ntmps5
  go_wp2_with fail
  go_loopw [17] (fun q wr => ∃ j : Nat, q = .int .i64 (j : Int) ∧ j ≤ 2 ∧ Below w.heap.size w wr ∧ wr.heap[w.heap.size]? = some (.cells #[.int .i64 0, .int .i64 0, .map none, .bool false, .int .i64 0, .bool false] 63) ∧ wr.heap[w.heap.size + 1]? = some (.cells #[.pointer none, .pointer (some ⟨w.heap.size, 0, none⟩)] 22)) (fun q _ => 2 - (intOf q).toNat)
  case atStart => exact ⟨0, rfl, by omega, by (repeat' first | exact Below.refl _ _ | (refine Below.alloc ?_ (by first | exact Nat.le_refl _ | (simp; done) | (simp; omega)) _)), (heap_alloc_old _ _ (by simp)).trans (heap_alloc_new _ _), by have := heap_alloc_new (w.alloc (.cells #[.int .i64 0, .int .i64 0, .map none, .bool false, .int .i64 0, .bool false] 63)) (.cells #[.pointer none, .pointer (some ⟨w.heap.size, 0, none⟩)] 22); simpa using this⟩
  case round =>
    obtain ⟨j, rfl, hj, hB, hz, hs⟩ := hrel
    by_cases hj2 : j < 2
    · obtain ⟨p, x0, hN⟩ : ∃ p, wr.cell? ⟨w.heap.size + 1, j, none⟩ = some (.pointer p) ∧ NoD wr p := by
        obtain rfl | rfl : j = 0 ∨ j = 1 := by omega
        · exact ⟨none, cell_of_row wr _ 0 _ _ _ hs, .inl rfl⟩
        · exact ⟨_, cell_of_row wr _ 1 _ _ _ hs, .inr ⟨_, rfl, hz⟩⟩
      have hd : decide ((j : Int) < 2) = true := decide_eq_true (by omega)
      have hC := Below.refl wr.heap.size wr
      go_wp2_with fail
      refine (no_arm hN n).mono ?_
      rintro e wn ⟨rfl, hb⟩
      replace hN := hN.below hb
      replace hC := bst hC hb
      clear hb
      go_wp2_with fail
      refine Calls.mono (no_crash (hN.below ?hb) _ _ _) ?_
      case hb => exact (by repeat' first | exact Below.refl _ _ | (refine Below.alloc ?_ (by first | exact Nat.le_refl _ | (simp; done) | (simp; omega)) _))
      rintro e w3 ⟨rfl, hb⟩
      replace hN := (hN.below (by (repeat' first | exact Below.refl _ _ | (refine Below.alloc ?_ (by first | exact Nat.le_refl _ | (simp; done) | (simp; omega)) _)))).below hb
      replace hC := bst (hC.alloc hC.size _) hb
      clear hb
      go_wp2_with fail
      refine (no_read hN s).mono ?_
      rintro e wn ⟨rfl, hb⟩
      replace hN := hN.below hb
      replace hC := bst hC hb
      clear hb
      go_wp2_with fail
      refine (no_append hN s A m c).mono ?_
      rintro e wn ⟨rfl, hb⟩
      replace hN := hN.below hb
      replace hC := bst hC hb
      clear hb
      go_wp2_with fail
      refine (no_sync hN s).mono ?_
      rintro e wn ⟨rfl, hb⟩
      replace hN := hN.below hb
      replace hC := bst hC hb
      clear hb
      go_wp2_with fail
      refine (no_rename hN s s).mono ?_
      rintro e wn ⟨rfl, hb⟩
      replace hN := hN.below hb
      replace hC := bst hC hb
      clear hb
      go_wp2_with fail
      refine (no_remove hN s).mono ?_
      rintro e wn ⟨rfl, hb⟩
      replace hN := hN.below hb
      replace hC := bst hC hb
      clear hb
      go_wp2_with fail
      refine (no_cut hN s n).mono ?_
      rintro e wn ⟨rfl, hb⟩
      replace hN := hN.below hb
      replace hC := bst hC hb
      clear hb
      go_wp2_with fail
      refine (no_down hN).mono ?_
      rintro e wn ⟨rfl, hb⟩
      replace hN := hN.below hb
      replace hC := bst hC hb
      clear hb
      go_wp2_with fail
      refine (no_size hN s).mono ?_
      rintro e wn ⟨rfl, hb⟩
      replace hN := hN.below hb
      replace hC := bst hC hb
      clear hb
      go_wp2_with fail
      refine (no_synced hN s).mono ?_
      rintro e wn ⟨rfl, hb⟩
      replace hN := hN.below hb
      replace hC := bst hC hb
      clear hb
      go_wp2_with fail
      refine (no_used hN).mono ?_
      rintro e wn ⟨rfl, hb⟩
      replace hN := hN.below hb
      replace hC := bst hC hb
      clear hb
      go_wp2_with fail
      refine (no_list hN).mono ?_
      rintro e wn ⟨rfl, hb⟩
      replace hN := hN.below hb
      replace hC := bst hC hb
      clear hb
      have hB2 := bst hB hC
      have hz2 := (hC.block _ (Array.getElem?_eq_some_iff.1 hz).1).trans hz
      have hs2 := (hC.block _ (Array.getElem?_eq_some_iff.1 hs).1).trans hs
      clear hz hs hB hC hN x0
      go_wp2_with fail
      go_roundw
      case rel => exact ⟨j + 1, by go_num, by omega, hB2, hz2, hs2⟩
      case measure => simp [intOf]; omega
    · obtain rfl : j = 2 := by omega
      go_wp2_with fail
      refine (awake2_any _).mono ?_
      rintro e w9 ⟨rfl, hb9⟩
      go_wp2_with fail
      go_ret
      exact ⟨rfl, bst hB hb9⟩
end Go.Proofs.Ytdcflgblaljdeaa
