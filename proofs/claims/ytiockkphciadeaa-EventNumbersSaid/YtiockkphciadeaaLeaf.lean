/-
  Walks of the small functions of package bytes: Clip, fold, unfold, mayStand, halve. Each says what the function answers, for every argument in its kind's range, in every world.
-/
import Derived.Test.YtiockkphciadeaaProg
import Derived.Test.YtiockkphciadeaaMath
namespace Go.Proofs.Ytiockkphciadeaa
open Go.RowKit

theorem clip_any (A : Option Addr) (n c : Nat) (w : World) (hn : n ≤ c) :
    Calls Try.prog 71 #[.slice A n c] w fun e w' => e = .returned (.slice A n n) ∧ w = w' := by
  go_enter Try.func71, Try.ntmps71
  go_wp2
  go_ret
  exact ⟨rfl, rfl⟩

theorem fold_any (n : Int) (w : World) (h0 : -9223372036854775808 ≤ n) (h1 : n ≤ 9223372036854775807) :
    Calls Try.prog 128 #[.int .i64 n] w fun e w' => e = .returned (.int .u64 (Lib.zigzag n : Int)) ∧ w = w' := by
  rw [← fold_eq n h0 h1]
  go_enter Try.func128, Try.ntmps128
  go_wp2
  go_ret
  exact ⟨rfl, rfl⟩

theorem unfold_any (u : Nat) (w : World) (h1 : u < 18446744073709551616) :
    Calls Try.prog 106 #[.int .u64 (u : Int)] w fun e w' => e = .returned (.int .i64 (Lib.unzigzag u)) ∧ w = w' := by
  rw [← unfold_eq u h1]
  go_enter Try.func106, Try.ntmps106
  go_wp2
  go_ret
  exact ⟨rfl, rfl⟩

theorem halve_any (u : Nat) (w : World) (h1 : u < 4294967296) :
    Calls Try.prog 130 #[.int .u32 (u : Int)] w fun e w' => e = .returned (.int .u32 (halve u : Int)) ∧ w = w' := by
  have e1 : bits .and .u32 (u : Int) 1 = ((u % 2 : Nat) : Int) := by
    rw [show (1 : Int) = ((1 : Nat) : Int) by rfl, u32_and_nat _ _ h1 (by omega), nat_mask1]
  by_cases hu : u % 2 = 1
  · have hb : (bits .and .u32 (u : Int) 1 == 1) = true := by rw [e1, hu]; rfl
    have hq : (halve u : Int) = bits .xor .u32 ((u : Int) / 2) 3988292384 := by rw [← halve_int u h1, if_pos (by omega)]
    rw [hq]
    clear hq e1 hu
    go_enter Try.func130, Try.ntmps130
    go_wp2
    go_ret
    exact ⟨rfl, rfl⟩
  · have hb : (bits .and .u32 (u : Int) 1 == 1) = false := by rw [e1, show u % 2 = 0 by omega]; rfl
    have hq : (halve u : Int) = (u : Int) / 2 := by rw [← halve_int u h1, if_neg (by omega)]
    rw [hq]
    clear hq e1 hu
    go_enter Try.func130, Try.ntmps130
    go_wp2
    go_ret
    exact ⟨rfl, rfl⟩

/-- may the byte x stand at the place i of a number? -/
def mayB (x i : Nat) : Bool := if x = 0 then decide (i = 0) else decide (i < 9) || decide (x = 1)
theorem mayStand_any (x i : Nat) (w : World) (h1 : x < 256) (h3 : i < 10) :
    Calls Try.prog 107 #[.int .u8 (x : Int), .int .i64 (i : Int)] w fun e w' => e = .returned (.bool (mayB x i)) ∧ w = w' := by
  by_cases hx : x = 0
  · subst hx
    have hq : mayB 0 i = ((i : Int) == 0) := by
      unfold mayB
      rw [if_pos rfl]
      by_cases h : i = 0
      · subst h; rfl
      · rw [decide_eq_false h, beq_eq_false_iff_ne.2 (by omega)]
    rw [hq]
    clear hq
    go_enter Try.func107, Try.ntmps107
    go_wp2
    go_ret
    exact ⟨rfl, rfl⟩
  · have hb : ((x : Int) == 0) = false := beq_eq_false_iff_ne.2 (by omega)
    by_cases hi : i < 9
    · have hq : mayB x i = true := by
        unfold mayB
        rw [if_neg hx, decide_eq_true hi, Bool.true_or]
      rw [hq]
      clear hq
      go_enter Try.func107, Try.ntmps107
      go_wp2
      go_ret
      exact ⟨rfl, rfl⟩
    · obtain rfl : i = 9 := by omega
      have hq : mayB x 9 = ((x : Int) == 1) := by
        unfold mayB
        rw [if_neg hx, decide_eq_false hi, Bool.false_or]
        by_cases h : x = 1
        · subst h; rfl
        · rw [decide_eq_false h, beq_eq_false_iff_ne.2 (by omega)]
      rw [hq]
      clear hq
      go_enter Try.func107, Try.ntmps107
      go_wp2
      go_ret
      exact ⟨rfl, rfl⟩
end Go.Proofs.Ytiockkphciadeaa
