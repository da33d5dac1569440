/-
  The definition's Uint, Int, Blob, GetInt.
-/
import Derived.Test.YtiockkphciadeaaKRefGet
import Derived.Test.YtiockkphciadeaaK2
set_option linter.unusedSimpArgs false
namespace Go.Proofs.Ytiockkphciadeaa
open Go.RowKit
open Go.Lib (byteCells byteCells_length byteCells_append uvarint uvarint_small uvarint_big)
set_option linter.unusedVariables false

theorem uv_len (x : Nat) (hx : x < 18446744073709551616) {A : Option Addr} {m c : Nat} {w : World} (h : IsB w A m c (uvarint x)) : m ≤ 10 := by
  rw [← h.len]; exact Lib.uvarint_length64 hx

set_option maxRecDepth 100000 in
set_option maxHeartbeats 1000000 in
theorem refUint_any (A : Option Addr) (n c x : Nat) (l : List UInt8) (w : World) (h : IsB w A n c l) (hn : n ≤ 17592186044416) (hx : x < 18446744073709551616) :
    Calls Try.prog 40 #[.slice A n c, .int .u64 (x : Int)] w fun e w' =>
      ∃ B m d, e = .returned (.slice B m d) ∧ IsB w' B m d (l ++ uvarint x) ∧ Below w.heap.size w w' := by
  go_enter Try.func40, Try.ntmps40
  go_wp2_with fail
  refine (varint_any x _ hx).mono ?_
  rintro e w1 ⟨A1, m1, c1, rfl, hI1, hb1⟩
  have hm1 := uv_len x hx hI1
  have h2 := h.below hb1
  go_wp2_with fail
  refine (after_any A n c l A1 m1 c1 _ _ h2 hI1 (by omega) (by omega)).mono ?_
  rintro e w2 ⟨g, k, rfl, hg1, hg2, hM, hb2⟩
  have hJ := hM.is_ (n := n + m1) (by rw [List.length_append, h.len, hI1.len])
  have hB := bstep0 hb1 hb2
  clear hM
  go_wp2_with fail
  go_ret
  exact ⟨_, _, _, rfl, hJ, hB⟩
theorem zig_neg {x : Int} (h : x < 0) : 2 * (-1 - x) + 1 = (Lib.zigzag x : Int) := by
  unfold Lib.zigzag
  split <;> omega
theorem zig_pos {x : Int} (h : ¬ x < 0) : 2 * x = (Lib.zigzag x : Int) := by
  unfold Lib.zigzag
  split <;> omega

set_option maxRecDepth 100000 in
set_option maxHeartbeats 1000000 in
theorem refInt_any (A : Option Addr) (n c : Nat) (x : Int) (l : List UInt8) (w : World) (h : IsB w A n c l) (hn : n ≤ 17592186044416) (h0 : -9223372036854775808 ≤ x) (h1 : x ≤ 9223372036854775807) :
    Calls Try.prog 76 #[.slice A n c, .int .i64 x] w fun e w' =>
      ∃ B m d, e = .returned (.slice B m d) ∧ IsB w' B m d (l ++ uvarint (Lib.zigzag x)) ∧ Below w.heap.size w w' := by
  have hz := Lib.zigzag_lt h0 h1
  by_cases hx : x < 0
  · have H := Lib.hid (zig_neg hx)
    go_enter Try.func76, Try.ntmps76
    go_wp2_with fail
    rw [H.out]
    refine (refUint_any A n c _ l _ h hn hz).mono ?_
    rintro e w1 ⟨A1, m1, c1, rfl, hI1, hb1⟩
    go_wp2_with fail
    go_ret
    exact ⟨_, _, _, rfl, hI1, hb1⟩
  · have H := Lib.hid (zig_pos hx)
    go_enter Try.func76, Try.ntmps76
    go_wp2_with fail
    rw [H.out]
    refine (refUint_any A n c _ l _ h hn hz).mono ?_
    rintro e w1 ⟨A1, m1, c1, rfl, hI1, hb1⟩
    go_wp2_with fail
    go_ret
    exact ⟨_, _, _, rfl, hI1, hb1⟩
end Go.Proofs.Ytiockkphciadeaa

/-
  The definition's GetBlob.
-/
set_option linter.unusedSimpArgs false
namespace Go.Proofs.Ytiockkphciadeaa
open Go.RowKit
open Go.Lib (byteCells byteCells_length byteCells_append uvarint)
set_option linter.unusedVariables false

end Go.Proofs.Ytiockkphciadeaa
