/-
  The definition's Uint, Int, Blob, GetInt.
-/
import Derived.Test.YtinakeabbgphlaaKRefGet
import Derived.Test.YtinakeabbgphlaaK2
set_option linter.unusedSimpArgs false
namespace Go.Proofs.Ytinakeabbgphlaa
open Go.RowKit
open Go.Lib (byteCells byteCells_length byteCells_append uvarint uvarint_small uvarint_big)
set_option linter.unusedVariables false

theorem uv_len (x : Nat) (hx : x < 18446744073709551616) {A : Option Addr} {m c : Nat} {w : World} (h : IsB w A m c (uvarint x)) : m ≤ 10 := by
  rw [← h.len]; exact Lib.uvarint_length64 hx

set_option maxRecDepth 100000 in
set_option maxHeartbeats 1000000 in
theorem refUint_any (A : Option Addr) (n c x : Nat) (l : List UInt8) (w : World) (h : IsB w A n c l) (hn : n ≤ 17592186044416) (hx : x < 18446744073709551616) :
    Calls Try.prog 33 #[.slice A n c, .int .u64 (x : Int)] w fun e w' =>
      ∃ B m d, e = .returned (.slice B m d) ∧ IsB w' B m d (l ++ uvarint x) ∧ Below w.heap.size w w' := by
  go_enter Try.func33, Try.ntmps33
  go_wp2_with fail
  refine (varint_any x _ hx).mono ?_
  rintro e w1 ⟨A1, m1, c1, rfl, hI1, hb1⟩
  have hm1 := uv_len x hx hI1
  have h2 := h.below hb1
  go_wp2_with fail
  refine (after_any A n c l A1 m1 c1 _ _ h2 hI1 (by omega) (by omega)).mono ?_
  rintro e w2 ⟨g, k, rfl, hg1, hg2, hM, hb2⟩
  have hJ := hM.is_ (n := n + m1) (by rw [List.length_append, h.len, hI1.len])
  have hB := bstep0 hb1 hb2
  clear hM
  go_wp2_with fail
  go_ret
  exact ⟨_, _, _, rfl, hJ, hB⟩
theorem zig_neg {x : Int} (h : x < 0) : 2 * (-1 - x) + 1 = (Lib.zigzag x : Int) := by
  unfold Lib.zigzag
  split <;> omega
theorem zig_pos {x : Int} (h : ¬ x < 0) : 2 * x = (Lib.zigzag x : Int) := by
  unfold Lib.zigzag
  split <;> omega

set_option maxRecDepth 100000 in
set_option maxHeartbeats 1000000 in
theorem refInt_any (A : Option Addr) (n c : Nat) (x : Int) (l : List UInt8) (w : World) (h : IsB w A n c l) (hn : n ≤ 17592186044416) (h0 : -9223372036854775808 ≤ x) (h1 : x ≤ 9223372036854775807) :
    Calls Try.prog 51 #[.slice A n c, .int .i64 x] w fun e w' =>
      ∃ B m d, e = .returned (.slice B m d) ∧ IsB w' B m d (l ++ uvarint (Lib.zigzag x)) ∧ Below w.heap.size w w' := by
  have hz := Lib.zigzag_lt h0 h1
  by_cases hx : x < 0
  · have H := Lib.hid (zig_neg hx)
    go_enter Try.func51, Try.ntmps51
    go_wp2_with fail
    rw [H.out]
    refine (refUint_any A n c _ l _ h hn hz).mono ?_
    rintro e w1 ⟨A1, m1, c1, rfl, hI1, hb1⟩
    go_wp2_with fail
    go_ret
    exact ⟨_, _, _, rfl, hI1, hb1⟩
  · have H := Lib.hid (zig_pos hx)
    go_enter Try.func51, Try.ntmps51
    go_wp2_with fail
    rw [H.out]
    refine (refUint_any A n c _ l _ h hn hz).mono ?_
    rintro e w1 ⟨A1, m1, c1, rfl, hI1, hb1⟩
    go_wp2_with fail
    go_ret
    exact ⟨_, _, _, rfl, hI1, hb1⟩
set_option maxRecDepth 100000 in
set_option maxHeartbeats 1000000 in
theorem refGetInt_of {A : Option Addr} {n c : Nat} {kk : Int} {v nx er : Nat} {w : World} (hv : v < 18446744073709551616) (he : er = 0 ∨ v = 0)
    (hU : Calls Try.prog 60 #[.slice A n c, .int .i64 kk] w fun e w' => e = .returned (.tuple #[.int .u64 (v : Int), .int .i64 (nx : Int), .int .i64 (er : Int)]) ∧ Below w.heap.size w w') :
    Calls Try.prog 59 #[.slice A n c, .int .i64 kk] w fun e w' =>
      e = .returned (.tuple #[.int .i64 (Lib.unzigzag v), .int .i64 (nx : Int), .int .i64 (er : Int)]) ∧ Below w.heap.size w w' := by
  by_cases h0 : er = 0
  · subst h0
    by_cases h1 : v % 2 = 1
    · have hd : ((v : Int) % 2 == 1) = true := by simp; omega
      have hz : Lib.unzigzag v = -1 - (v : Int) / 2 := by unfold Lib.unzigzag; rw [if_neg (by omega)]; omega
      rw [hz]
      clear hz he
      go_enter Try.func59, Try.ntmps59
      go_wp2_with fail
      refine hU.mono ?_
      rintro e w1 ⟨rfl, hb1⟩
      go_wp2_with fail
      refine bodyPost_ret (v := .tuple #[.int .i64 (-1 - (v : Int) / 2), .int .i64 (nx : Int), .int .i64 (0)]) (by simp [results, Try.results59, go_sem]) rfl ⟨rfl, hb1⟩
    · have hd : ((v : Int) % 2 == 1) = false := by simp; omega
      have hz : Lib.unzigzag v = (v : Int) / 2 := by unfold Lib.unzigzag; rw [if_pos (by omega)]; omega
      rw [hz]
      clear hz he
      go_enter Try.func59, Try.ntmps59
      go_wp2_with fail
      refine hU.mono ?_
      rintro e w1 ⟨rfl, hb1⟩
      go_wp2_with fail
      refine bodyPost_ret (v := .tuple #[.int .i64 ((v : Int) / 2), .int .i64 (nx : Int), .int .i64 (0)]) (by simp [results, Try.results59, go_sem]) rfl ⟨rfl, hb1⟩
  · obtain rfl : v = 0 := by omega
    have hz : Lib.unzigzag 0 = 0 := by decide
    have hd : ((er : Int) == 0) = false := by simp; omega
    rw [hz]
    clear hz he
    go_enter Try.func59, Try.ntmps59
    go_wp2_with fail
    refine hU.mono ?_
    rintro e w1 ⟨rfl, hb1⟩
    go_wp2_with fail
    refine bodyPost_ret (v := .tuple #[.int .i64 (0), .int .i64 (nx : Int), .int .i64 (er : Int)]) (by simp [results, Try.results59, go_sem]) rfl ⟨rfl, hb1⟩

theorem refGetInt_any (A : Option Addr) (n c k : Nat) (l : List UInt8) (w : World) (h : IsB w A n c l) (hn : n ≤ 17592186044416) (hk : k ≤ n) :
    Calls Try.prog 59 #[.slice A n c, .int .i64 (k : Int)] w fun e w' =>
      e = .returned (ansI k (getU (l.drop k))) ∧ Below w.heap.size w w' :=
  refGetInt_of (getU_lt _) ((getU_err _).imp id And.left) (refGetUint_any A n c k l w h hn hk)
theorem refGetInt_out (A : Option Addr) (n c : Nat) (k : Int) (w : World) (hk : k < 0 ∨ (n : Int) < k) :
    Calls Try.prog 59 #[.slice A n c, .int .i64 k] w fun e w' =>
      e = .returned (.tuple #[.int .i64 0, .int .i64 0, .int .i64 2]) ∧ Below w.heap.size w w' :=
  refGetInt_of (v := 0) (nx := 0) (er := 2) (by decide) (.inr rfl) (refGetUint_out A n c k w hk)
end Go.Proofs.Ytinakeabbgphlaa

/-
  The definition's GetBlob.
-/
set_option linter.unusedSimpArgs false
namespace Go.Proofs.Ytinakeabbgphlaa
open Go.RowKit
open Go.Lib (byteCells byteCells_length byteCells_append uvarint)
set_option linter.unusedVariables false

end Go.Proofs.Ytinakeabbgphlaa
