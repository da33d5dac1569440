/-
  Get's closure: one more number.
-/
import Derived.Test.YtiockkphciadeaaEvFrame
import Derived.Test.YtiockkphciadeaaGetBlob
set_option linter.unusedVariables false
set_option linter.unusedSimpArgs false
namespace Go.Proofs.Ytiockkphciadeaa
open Go.RowKit
open Go.Lib (byteCells byteCells_length byteCells_append uvarint)

theorem stp_le {l : List UInt8} {s : Nat × Nat} (h : s.1 ≤ l.length) : (stp l s).1 ≤ l.length := by
  unfold stp
  split
  · have := getU_le (l.drop s.1)
    rw [List.length_drop] at this
    unfold nextU
    dsimp only
    split <;> omega
  · exact h
set_option maxRecDepth 100000 in
set_option maxHeartbeats 1000000 in
theorem cl_get {w0 w : World} {fb bb tb : Nat} {A : Option Addr} {n c : Nat} {l : List UInt8} {s : Nat × Nat} (hI : IsB w0 A n c l) (hB : Below w0.heap.size w0 w) (hn : n ≤ 1000000) (hk : s.1 ≤ n)
    (hf : w.heap[fb]? = some (.cells #[.int .i64 (s.2 : Int)] 23 (0, 0))) (hb : w.heap[bb]? = some (.cells #[.slice A n c] 26 (0, 0))) (ht : w.heap[tb]? = some (.cells #[.int .i64 (s.1 : Int)] 3 (0, 0))) (was : Int) (z' : Value) :
    Calls Try.prog 73 #[.int .i64 was, z', .pointer (some ⟨fb, 0, none⟩), .pointer (some ⟨bb, 0, none⟩), .pointer (some ⟨tb, 0, none⟩)] w fun e w' => e = .returned (.int .i64 (stv l s was)) ∧
      w'.heap[fb]? = some (.cells #[.int .i64 ((stp l s).2 : Int)] 23 (0, 0)) ∧ w'.heap[tb]? = some (.cells #[.int .i64 ((stp l s).1 : Int)] 3 (0, 0)) ∧ Away (fun b => b = fb ∨ b = tb) w w' := by
  obtain ⟨k, f⟩ := s
  dsimp only at hk hf ht ⊢
  have f0 : w.cell? ⟨fb, 0, none⟩ = some (.int .i64 (f : Int)) := cell_of_row _ _ 0 _ _ _ hf
  by_cases h0 : f = 0
  · subst h0
    have b0 : w.cell? ⟨bb, 0, none⟩ = some (.slice A n c) := cell_of_row _ _ 0 _ _ _ hb
    have t0 : w.cell? ⟨tb, 0, none⟩ = some (.int .i64 (k : Int)) := cell_of_row _ _ 0 _ _ _ ht
    have hne : fb ≠ tb := by rintro rfl; rw [hf] at ht; simp at ht
    have hne' : tb ≠ fb := hne.symm
    have ff := free_of_row hf 0
    have tf := free_of_row ht 0
    have HG := Lib.hid (getInt_any A n c k l w (hI.below hB) (by omega) hk)
    have hst : stp l (k, 0) = (nextU k (getU (l.drop k)), (getU (l.drop k)).2.2) := by unfold stp; rw [if_pos rfl]
    have hsv : stv l (k, 0) was = wrap64 (was + Lib.unzigzag (getU (l.drop k)).1) := by unfold stv; rw [if_pos rfl]
    unfold ansI at HG
    rw [hst, hsv]
    dsimp only
    generalize nextU k (getU (l.drop k)) = k' at HG
    generalize Lib.unzigzag (getU (l.drop k)).1 = m at HG
    generalize (getU (l.drop k)).2.2 = f' at HG
    have HF := Lib.hid hf
    have HT := Lib.hid ht
    clear hf hb ht hI hst hsv
    go_enter Try.func73, Try.ntmps73
    go_wp2_with fail
    refine HG.out.mono ?_
    rintro e w' ⟨rfl, rfl⟩
    clear HG
    go_wp2_with fail
    go_ret
    have hA1 := Away.setCell w ⟨tb, 0, none⟩ (.int .i64 (k' : Int))
    have hA2 := Away.setCell (w.setCell ⟨tb, 0, none⟩ (.int .i64 (k' : Int))) ⟨fb, 0, none⟩ (.int .i64 (f' : Int))
    have q1 : (w.setCell ⟨tb, 0, none⟩ (.int .i64 (k' : Int))).heap[tb]? = some (.cells #[.int .i64 (k' : Int)] 3 (0, 0)) := by rw [set_blk HT.out 0]; rfl
    have q2 := (hA1.block fb (Array.getElem?_eq_some_iff.1 HF.out).1 hne).trans HF.out
    refine ⟨?_, ?_, (hA2.block tb (Array.getElem?_eq_some_iff.1 q1).1 hne').trans q1, (hA1.mono (F' := fun b => b = fb ∨ b = tb) fun b _ e => .inr e).trans hA2 ?_⟩
    · rfl
    · rw [set_blk q2 0]; rfl
    · exact fun b e => .inl (.inl e)
  · have hd : ((f : Int) != 0) = true := by simp; omega
    have hst : stp l (k, f) = (k, f) := by unfold stp; rw [if_neg h0]
    have hsv : stv l (k, f) was = 0 := by unfold stv; rw [if_neg h0]
    rw [hst, hsv]
    have HF := Lib.hid hf
    have HT := Lib.hid ht
    clear hf hb ht hI hst hsv h0
    go_enter Try.func73, Try.ntmps73
    go_wp2_with fail
    go_ret
    exact ⟨rfl, HF.out, HT.out, Away.refl _ _⟩
end Go.Proofs.Ytiockkphciadeaa
