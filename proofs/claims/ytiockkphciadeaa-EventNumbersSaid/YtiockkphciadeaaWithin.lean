/-
  BytesWithin: for any number, any bytes ahead, the law returns true: whoever reads on within a number reads what is left of it. No condition.
-/
import Derived.Test.YtiockkphciadeaaRowB
import Derived.Test.YtiockkphciadeaaRows
import Derived.ProofKit
import Derived.ChangeOld
set_option linter.unusedSimpArgs false
namespace Go.Proofs.Ytiockkphciadeaa
open Go.RowKit
theorem own_empty (w : World) (e : TypeId) : Own (w.alloc (.cells #[] e)) w.heap.size e (.slice (some ⟨w.heap.size, 0, none⟩) 0 0) [] :=
  World.ownsRow_made w #[] 0 (Nat.le_refl _) (Nat.zero_le _) rfl
end Go.Proofs.Ytiockkphciadeaa
namespace Go.Proofs.Ytiockkphciadeaa.bytesWithin
open Go.ChangeShapes Go.WideShapes Go.ChangeAt Go.RowKit
open Go.Lib (uvarint)
set_option linter.unusedVariables false

theorem within_get (A : Option Addr) (m c L k n : Nat) (l : List UInt8) (w : World) (hl : l.length = m) (hL : (uvarint n).length = L) (hn : n < 18446744073709551616) (h : IsB w A (m + L) c (l ++ uvarint n)) (hm : m ≤ 100) (hk : k < L) (hL1 : L ≤ 10) :
    Calls Try.prog 79 #[.slice A (m + L) c, .int .i64 ((m : Int) + (k : Int))] w fun e w' =>
      e = .returned (.tuple #[.int .u64 ((n / 128 ^ k : Nat) : Int), .int .i64 ((m : Int) + (L : Int)), .int .i64 0]) ∧ w = w' := by
  have hc := getUint_any A (m + L) c (m + k) _ w h (by omega) (by omega)
  have hd : (l ++ uvarint n).drop (m + k) = uvarint (n / 128 ^ k) := by
    rw [← List.drop_drop, show List.drop m (l ++ uvarint n) = uvarint n by rw [← hl]; exact List.drop_left, drop_uvarint k n (by omega)]
  have hlen : (uvarint (n / 128 ^ k)).length = L - k := by
    rw [← drop_uvarint k n (by omega), List.length_drop, hL]
  have hlt : n / 128 ^ k < 18446744073709551616 := Nat.lt_of_le_of_lt (Nat.div_le_self _ _) hn
  rw [hd, getU_uvarint' hlt, hlen] at hc
  have hx : (((m + k : Nat) : Nat) : Int) = (m : Int) + (k : Int) := by omega
  have hnx : ((nextU (m + k) (n / 128 ^ k, L - k, 0) : Nat) : Int) = (m : Int) + (L : Int) := by
    unfold nextU
    rw [if_pos rfl]
    dsimp only
    omega
  unfold ansU at hc
  rw [hx, hnx] at hc
  exact hc
theorem shift_eq (n k : Nat) : (n : Int) / 2 ^ (7 * k) = ((n / 128 ^ k : Nat) : Int) := by
  rw [show (128 : Nat) = 2 ^ 7 by rfl, ← Nat.pow_mul, Int.natCast_ediv, Int.natCast_pow]
  rfl
theorem end_get (A : Option Addr) (m c L n : Nat) (l : List UInt8) (w : World) (hl : l.length = m) (hL : (uvarint n).length = L) (h : IsB w A (m + L) c (l ++ uvarint n)) (hm : m + L ≤ 200) :
    Calls Try.prog 79 #[.slice A (m + L) c, .int .i64 ((m : Int) + (L : Int))] w fun e w' =>
      e = .returned (.tuple #[.int .u64 0, .int .i64 0, .int .i64 11]) ∧ w = w' := by
  have hc := getUint_any A (m + L) c (m + L) _ w h (by omega) (by omega)
  rw [List.drop_of_length_le (by rw [List.length_append]; omega), getU_nil] at hc
  exact hc
theorem uvarint_big_len : ∀ (L n : Nat), (uvarint n).length = L + 1 → 1 ≤ L → 128 ^ L ≤ n
  | 0, _, _, h => by omega
  | L + 1, n, h, _ => by
    by_cases hs : n < 128
    · rw [Lib.uvarint_small hs] at h
      simp at h
    · rw [Lib.uvarint_big (by omega), List.length_cons] at h
      rcases Nat.eq_zero_or_pos L with h0 | h0
      · subst h0; simp; omega
      · have := uvarint_big_len L (n / 128) (by omega) h0
        rw [Nat.pow_succ]
        have h2 := Nat.mul_le_mul_right 128 this
        omega
theorem last_bit (n L : Nat) (h : (uvarint n).length = L) (h0 : 0 < n) : decide (0 < (n : Int) / 2 ^ (7 * L - 7)) = true := by
  have hL := Lib.uvarint_pos n
  obtain ⟨k, rfl⟩ : ∃ k, L = k + 1 := ⟨L - 1, by omega⟩
  have e : 7 * (k + 1) - 7 = 7 * k := by omega
  rw [e, shift_eq, decide_eq_true_eq]
  have h1 : 128 ^ k ≤ n := by
    rcases Nat.eq_zero_or_pos k with hk | hk
    · subst hk; rw [Nat.pow_zero]; omega
    · exact uvarint_big_len k n h hk
  have h2 : 0 < 128 ^ k := Nat.pow_pos (by decide)
  have := Nat.div_pos h1 h2
  omega

end Go.Proofs.Ytiockkphciadeaa.bytesWithin
