/-
  BytesWithin: for any number, any bytes ahead, the law returns true: whoever reads on within a number reads what is left of it. No condition.
-/
import Derived.Test.YtepdgldhaojmpaaRowB
import Derived.Test.YtepdgldhaojmpaaRows
import Derived.ProofKit
import Derived.ChangeOld
set_option linter.unusedSimpArgs false
namespace Go.Proofs.Ytepdgldhaojmpaa
open Go.RowKit
theorem own_empty (w : World) (e : TypeId) : Own (w.alloc (.cells #[] e)) w.heap.size e (.slice (some ⟨w.heap.size, 0, none⟩) 0 0) [] :=
  World.ownsRow_made w #[] 0 (Nat.le_refl _) (Nat.zero_le _) rfl
end Go.Proofs.Ytepdgldhaojmpaa
namespace Go.Proofs.Ytepdgldhaojmpaa.bytesWithin
open Go.ChangeShapes Go.WideShapes Go.ChangeAt Go.RowKit
open Go.Lib (uvarint)
set_option linter.unusedVariables false

theorem within_get (A : Option Addr) (m c L k n : Nat) (l : List UInt8) (w : World) (hl : l.length = m) (hL : (uvarint n).length = L) (hn : n < 18446744073709551616) (h : IsB w A (m + L) c (l ++ uvarint n)) (hm : m ≤ 100) (hk : k < L) (hL1 : L ≤ 10) :
    Calls Try.prog 11 #[.slice A (m + L) c, .int .i64 ((m : Int) + (k : Int))] w fun e w' =>
      e = .returned (.tuple #[.int .u64 ((n / 128 ^ k : Nat) : Int), .int .i64 ((m : Int) + (L : Int)), .int .i64 0]) ∧ w = w' := by
  have hc := getUint_any A (m + L) c (m + k) _ w h (by omega) (by omega)
  have hd : (l ++ uvarint n).drop (m + k) = uvarint (n / 128 ^ k) := by
    rw [← List.drop_drop, show List.drop m (l ++ uvarint n) = uvarint n by rw [← hl]; exact List.drop_left, drop_uvarint k n (by omega)]
  have hlen : (uvarint (n / 128 ^ k)).length = L - k := by
    rw [← drop_uvarint k n (by omega), List.length_drop, hL]
  have hlt : n / 128 ^ k < 18446744073709551616 := Nat.lt_of_le_of_lt (Nat.div_le_self _ _) hn
  rw [hd, getU_uvarint' hlt, hlen] at hc
  have hx : (((m + k : Nat) : Nat) : Int) = (m : Int) + (k : Int) := by omega
  have hnx : ((nextU (m + k) (n / 128 ^ k, L - k, 0) : Nat) : Int) = (m : Int) + (L : Int) := by
    unfold nextU
    rw [if_pos rfl]
    dsimp only
    omega
  unfold ansU at hc
  rw [hx, hnx] at hc
  exact hc
theorem shift_eq (n k : Nat) : (n : Int) / 2 ^ (7 * k) = ((n / 128 ^ k : Nat) : Int) := by
  rw [show (128 : Nat) = 2 ^ 7 by rfl, ← Nat.pow_mul, Int.natCast_ediv, Int.natCast_pow]
  rfl
theorem end_get (A : Option Addr) (m c L n : Nat) (l : List UInt8) (w : World) (hl : l.length = m) (hL : (uvarint n).length = L) (h : IsB w A (m + L) c (l ++ uvarint n)) (hm : m + L ≤ 200) :
    Calls Try.prog 11 #[.slice A (m + L) c, .int .i64 ((m : Int) + (L : Int))] w fun e w' =>
      e = .returned (.tuple #[.int .u64 0, .int .i64 0, .int .i64 11]) ∧ w = w' := by
  have hc := getUint_any A (m + L) c (m + L) _ w h (by omega) (by omega)
  rw [List.drop_of_length_le (by rw [List.length_append]; omega), getU_nil] at hc
  exact hc
theorem uvarint_big_len : ∀ (L n : Nat), (uvarint n).length = L + 1 → 1 ≤ L → 128 ^ L ≤ n
  | 0, _, _, h => by omega
  | L + 1, n, h, _ => by
    by_cases hs : n < 128
    · rw [Lib.uvarint_small hs] at h
      simp at h
    · rw [Lib.uvarint_big (by omega), List.length_cons] at h
      rcases Nat.eq_zero_or_pos L with h0 | h0
      · subst h0; simp; omega
      · have := uvarint_big_len L (n / 128) (by omega) h0
        rw [Nat.pow_succ]
        have h2 := Nat.mul_le_mul_right 128 this
        omega
theorem last_bit (n L : Nat) (h : (uvarint n).length = L) (h0 : 0 < n) : decide (0 < (n : Int) / 2 ^ (7 * L - 7)) = true := by
  have hL := Lib.uvarint_pos n
  obtain ⟨k, rfl⟩ : ∃ k, L = k + 1 := ⟨L - 1, by omega⟩
  have e : 7 * (k + 1) - 7 = 7 * k := by omega
  rw [e, shift_eq, decide_eq_true_eq]
  have h1 : 128 ^ k ≤ n := by
    rcases Nat.eq_zero_or_pos k with hk | hk
    · subst hk; rw [Nat.pow_zero]; omega
    · exact uvarint_big_len k n h hk
  have h2 : 0 < 128 ^ k := Nat.pow_pos (by decide)
  have := Nat.div_pos h1 h2
  omega

set_option maxRecDepth 100000 in
set_option maxHeartbeats 1000000 in
theorem walk (n : Nat) (hn : n < 18446744073709551616) (A : Option Addr) (n0 c0 : Nat) (l : List UInt8) (w : World) (h : IsB w A n0 c0 l) :
    Calls Try.prog 6 #[.int .u64 (n : Int), .slice A n0 c0] w fun e w' => e = .returned (.bool true) ∧ Below w.heap.size w w' := by
  by_cases h100 : 100 < n0
  · clear h
    go_enter Try.func6, Try.ntmps6
    go_wp2_with fail
    refine (awake_any _).mono ?_
    rintro e w1 ⟨rfl, hb⟩
    go_wp2_with fail
    go_ret
    exact ⟨rfl, hb⟩
  · obtain ⟨i0, hi, hz0, hz1, hz2⟩ := info_parts infoByte
    go_enter Try.func6, Try.ntmps6
    go_wp2_with (at_builtin; refine wpList_putAny _ rfl _ _ 24 rfl 5 i0 Try.underlying24 hi hz0 hz1 hz2 w.heap.size _ [] rfl (own_empty w 5) A n0 c0 l rfl (h.alloc _) (by simp; omega) (by simp) ?_; rintro v1 w1 ho1 hb1; rw [List.nil_append] at ho1; obtain ⟨A1, m1, c1, rfl, hi1⟩ := own_slice ho1)
    obtain rfl : m1 = n0 := hi1.len.symm.trans h.len
    have hB : Below w.heap.size w w1 := ((Below.refl _ _).alloc (Nat.le_refl _) _).trans hb1
    clear hb1 ho1 h
    refine (uint_any A1 m1 c1 n l _ hi1 (by omega) hn).mono ?_
    rintro e w2 ⟨v2, rfl, ho2, hb2⟩
    replace hB := bstep0 hB hb2
    obtain ⟨A2, m2, c2, rfl, hi2⟩ := own_slice ho2
    have hm2 := hi2.len
    have hl := hi1.len
    rw [List.length_append, hl] at hm2
    have hL0 := Lib.uvarint_pos n
    have hL1 := Lib.uvarint_length64 hn
    generalize hLe : (uvarint n).length = L at hm2 hL0 hL1
    have HL := Lib.hid hLe
    have Hl := Lib.hid hl
    subst hm2
    clear hLe hl ho2 hb2 hi1
    have hsub : (m1 : Int) + (L : Int) - (m1 : Int) = (L : Int) := by omega
    go_wp2_with fail
    clear hsub
    go_loop [35] (fun i => ∃ k : Nat, i = .int .i64 (k : Int) ∧ k ≤ L) (fun i => L - (intOf i).toNat)
    case atStart => exact ⟨0, rfl, Nat.zero_le _⟩
    case round =>
      obtain ⟨k, rfl, hk⟩ := hrel
      by_cases hkL : k < L
      · have hkd : decide ((k : Int) < (L : Int)) = true := by simp; omega
        have HG := Lib.hid (within_get A2 m1 c2 L k n l w2 Hl.out HL.out hn hi2 (by omega) hkL (by omega))
        have HQ := Lib.hid (shift_eq n k)
        generalize n / 128 ^ k = q at HG HQ
        go_wp2_with fail
        refine HG.out.mono ?_
        rintro e w' ⟨rfl, rfl⟩
        have hq := HQ.out
        go_wp2_with fail
        go_round
        case rel => exact ⟨k + 1, by go_num, by omega⟩
        case measure => simp [intOf]; omega
      · obtain rfl : k = L := by omega
        have HE := Lib.hid (end_get A2 m1 c2 k n l w2 Hl.out HL.out hi2 (by omega))
        go_wp2_with fail
        refine HE.out.mono ?_
        rintro e w' ⟨rfl, rfl⟩
        clear HE
        by_cases hn0 : n = 0
        case' pos =>
          subst hn0
          have hk1 : k = 1 := by rw [← HL.out, uv0]; rfl
          subst hk1
          go_wp2_with fail
        case' neg =>
          have ht := last_bit n k HL.out (by omega)
          have hpos : 0 < (n : Int) := by omega
          clear hn0
          by_cases hk1 : 1 < k
          case' pos =>
            go_wp2_with fail
          case' neg =>
            go_wp2_with fail
        all_goals
          refine (awake_any _).mono ?_
          rintro e w3 ⟨rfl, hb3⟩
          go_wp2_with fail
          go_ret
          exact ⟨rfl, bstep0 hB hb3⟩
end Go.Proofs.Ytepdgldhaojmpaa.bytesWithin
