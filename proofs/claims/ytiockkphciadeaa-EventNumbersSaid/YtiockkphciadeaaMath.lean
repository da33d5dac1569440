/-
  Plain facts on numbers, without the program: the fold of signed numbers, varints and what is read of them, halving and the sum's register.
-/
import Derived.WalkKit
import Derived.Lib.Zigzag
import Derived.Lib.VarintDec
namespace Go.Proofs.Ytiockkphciadeaa
open Go.RowKit

theorem fold_eq (n : Int) (h0 : -9223372036854775808 ≤ n) (h1 : n ≤ 9223372036854775807) :
    bits .xor .u64 (IntKind.u64.wrap (IntKind.u64.wrap n * 2)) (IntKind.u64.wrap (n / 9223372036854775808)) = ((Lib.zigzag n : Nat) : Int) := by
  by_cases hn : 0 ≤ n
  · have e1 : IntKind.u64.wrap (IntKind.u64.wrap n * 2) = (((2 * n).toNat : Nat) : Int) := by
      rw [IntKind.wrap_u64, IntKind.wrap_u64]; omega
    have e2 : IntKind.u64.wrap (n / 9223372036854775808) = ((0 : Nat) : Int) := by
      rw [IntKind.wrap_u64]; omega
    rw [e1, e2, bits_xor_u64_nat _ _ (by omega) (by decide), Nat.xor_zero]
    unfold Lib.zigzag
    rw [if_pos hn]
  · have e1 : IntKind.u64.wrap (IntKind.u64.wrap n * 2) = (((2 * n + 18446744073709551616).toNat : Nat) : Int) := by
      rw [IntKind.wrap_u64, IntKind.wrap_u64]; omega
    have e2 : IntKind.u64.wrap (n / 9223372036854775808) = ((2 ^ 64 - 1 : Nat) : Int) := by
      rw [IntKind.wrap_u64]; omega
    rw [e1, e2, bits_xor_u64_nat _ _ (by omega) (by decide), Nat.xor_comm, Lib.xor_ones64 _ (by omega)]
    unfold Lib.zigzag
    rw [if_neg hn]
    omega

theorem xor_i64_comm (a b : Int) : bits .xor .i64 a b = bits .xor .i64 b a := by
  show IntKind.i64.wrap ((BitVec.ofInt 64 a ^^^ BitVec.ofInt 64 b).toNat : Int) = IntKind.i64.wrap ((BitVec.ofInt 64 b ^^^ BitVec.ofInt 64 a).toNat : Int)
  rw [BitVec.xor_comm]

theorem xor_i64_zero (x : Nat) (hx : x < 9223372036854775808) : bits .xor .i64 (x : Int) 0 = (x : Int) := by
  show IntKind.i64.wrap ((BitVec.ofInt 64 (x : Int) ^^^ BitVec.ofInt 64 0).toNat : Int) = _
  have h2 : (BitVec.ofInt 64 (x : Int)).toNat = x := by
    rw [BitVec.ofInt_natCast, BitVec.toNat_ofNat]; exact Nat.mod_eq_of_lt (by omega)
  have h1 : (BitVec.ofInt 64 0).toNat = 0 := by decide
  rw [BitVec.toNat_xor, h1, h2, Nat.xor_zero, IntKind.wrap_i64]
  omega

theorem unfold_eq (u : Nat) (h1 : u < 18446744073709551616) :
    bits .xor .i64 ((u : Int) / 2) (wrap64 (-wrap64 (bits .and .u64 (u : Int) 1))) = Lib.unzigzag u := by
  rw [Lib.u64_and1 _ (by omega) (by omega)]
  unfold Lib.unzigzag
  by_cases hu : u % 2 = 0
  · rw [if_pos hu, show ((u : Int) % 2) = 0 by omega]
    have : wrap64 (-wrap64 0) = 0 := by unfold wrap64; omega
    rw [this]
    exact xor_i64_zero (u / 2) (by omega)
  · rw [if_neg hu, show ((u : Int) % 2) = 1 by omega]
    have : wrap64 (-wrap64 1) = -1 := by unfold wrap64; omega
    rw [this, xor_i64_comm]
    exact Lib.i64_not (u / 2) (by omega)

theorem unzigzag_zigzag (n : Int) : Lib.unzigzag (Lib.zigzag n) = n := by
  unfold Lib.unzigzag Lib.zigzag
  split <;> split <;> omega
theorem zigzag_unzigzag (u : Nat) : Lib.zigzag (Lib.unzigzag u) = u := by
  unfold Lib.unzigzag Lib.zigzag
  split <;> split <;> omega

/- ## Halving, and the sum's register -/
def halve (u : Nat) : Nat := if u % 2 = 1 then u / 2 ^^^ 3988292384 else u / 2
theorem halve_lt {u : Nat} (h : u < 4294967296) : halve u < 4294967296 := by
  unfold halve
  split
  · exact Nat.xor_lt_two_pow (n := 32) (by omega) (by omega)
  · omega
theorem halve_int (u : Nat) (h : u < 4294967296) : (if (u : Int) % 2 = 1 then bits .xor .u32 ((u : Int) / 2) 3988292384 else (u : Int) / 2) = ((halve u : Nat) : Int) := by
  unfold halve
  by_cases hu : u % 2 = 1
  · rw [if_pos hu, if_pos (by omega)]
    exact u32_xor_nat (u / 2) 3988292384 (by omega) (by omega)
  · rw [if_neg hu, if_neg (by omega)]
    omega

/-- halved k times -/
def halveN : Nat → Nat → Nat
  | 0, u => u
  | k + 1, u => halveN k (halve u)
theorem halveN_lt : ∀ (k : Nat) {u : Nat}, u < 4294967296 → halveN k u < 4294967296
  | 0, _, h => h
  | k + 1, _, h => halveN_lt k (halve_lt h)
theorem halveN_succ (k u : Nat) : halveN (k + 1) u = halve (halveN k u) := by
  induction k generalizing u with
  | zero => rfl
  | succ k ih => exact ih (halve u)
theorem halveN_add (j k u : Nat) : halveN (j + k) u = halveN j (halveN k u) := by
  induction k generalizing u with
  | zero => rfl
  | succ k ih => exact ih (halve u)

theorem half_xor (a b : Nat) : (a ^^^ b) / 2 = a / 2 ^^^ b / 2 := by
  have := Nat.xor_div_two (a := a) (b := b)
  exact this
theorem odd_xor (a b : Nat) : (a ^^^ b) % 2 = (a + b) % 2 := by
  have h := @Nat.xor_mod_two_eq_one a b
  omega
theorem eq_of_xor_zero {a b : Nat} (h : a ^^^ b = 0) : a = b := by
  have e : (a ^^^ b) ^^^ b = a := by rw [Nat.xor_assoc, Nat.xor_self, Nat.xor_zero]
  rw [h, Nat.zero_xor] at e
  exact e.symm
theorem halve_xor (a b : Nat) : halve (a ^^^ b) = halve a ^^^ halve b := by
  unfold halve
  rw [half_xor, odd_xor]
  rcases Nat.mod_two_eq_zero_or_one a with ha | ha <;> rcases Nat.mod_two_eq_zero_or_one b with hb | hb
  · rw [if_neg (by omega), if_neg (by omega), if_neg (by omega)]
  · rw [if_pos (by omega), if_neg (by omega), if_pos (by omega), Nat.xor_assoc]
  · rw [if_pos (by omega), if_pos (by omega), if_neg (by omega), Nat.xor_assoc, Nat.xor_assoc, Nat.xor_comm 3988292384]
  · rw [if_neg (by omega), if_pos (by omega), if_pos (by omega), Nat.xor_assoc, ← Nat.xor_assoc 3988292384, Nat.xor_comm 3988292384, Nat.xor_assoc, Nat.xor_self, Nat.xor_zero]
theorem halveN_xor (k : Nat) (a b : Nat) : halveN k (a ^^^ b) = halveN k a ^^^ halveN k b := by
  induction k generalizing a b with
  | zero => rfl
  | succ k ih => rw [halveN, halve_xor, ih]; rfl
theorem halve_zero : halve 0 = 0 := rfl
theorem halveN_zero (k : Nat) : halveN k 0 = 0 := by
  induction k with
  | zero => rfl
  | succ k ih => exact ih
/-- what is halved to nothing is nothing -/
theorem halve_eq_zero {u : Nat} (h : u < 4294967296) (h0 : halve u = 0) : u = 0 := by
  unfold halve at h0
  split at h0
  · have e : u / 2 = 3988292384 := eq_of_xor_zero h0
    omega
  · omega
theorem halveN_eq_zero : ∀ (k : Nat) {u : Nat}, u < 4294967296 → halveN k u = 0 → u = 0
  | 0, _, _, h => h
  | k + 1, _, hu, h => halve_eq_zero hu (halveN_eq_zero k (halve_lt hu) h)

/-- one byte into the register -/
def crcStep (r x : Nat) : Nat := halveN 8 (r ^^^ x)
theorem crcStep_lt {r x : Nat} (h : r < 4294967296) (hx : x < 256) : crcStep r x < 4294967296 :=
  halveN_lt 8 (Nat.xor_lt_two_pow (n := 32) (by omega) (by omega))
def crcReg (r : Nat) : List UInt8 → Nat
  | [] => r
  | x :: l => crcReg (crcStep r x.toNat) l
theorem crcReg_lt : ∀ (l : List UInt8) {r : Nat}, r < 4294967296 → crcReg r l < 4294967296
  | [], _, h => h
  | x :: l, _, h => crcReg_lt l (crcStep_lt h (x.toNat_lt))
theorem crcReg_append (l m : List UInt8) (r : Nat) : crcReg r (l ++ m) = crcReg (crcReg r l) m := by
  induction l generalizing r with
  | nil => rfl
  | cons x l ih => exact ih _
/-- the sum -/
def crc (l : List UInt8) : Nat := 4294967295 - crcReg 4294967295 l
theorem crc_lt (l : List UInt8) : crc l < 4294967296 := by unfold crc; omega

/-- what the low four bits are halved to -/
theorem halve4 (s : Nat) : halveN 4 s = s / 16 ^^^ halveN 4 (s % 16) := by
  have key : ∀ q : Nat, halveN 4 (q * 16) = q := by
    intro q
    have e : ∀ m : Nat, halve (m * 2) = m := by
      intro m
      unfold halve
      rw [if_neg (by omega)]
      omega
    show halve (halve (halve (halve (q * 16)))) = q
    rw [show q * 16 = q * 2 * 2 * 2 * 2 by omega, e, e, e, e]
  have hs : s = s / 16 * 16 ^^^ s % 16 := by
    have h := Nat.two_pow_add_eq_or_of_lt (i := 4) (b := s % 16) (by omega) (s / 16)
    have h2 : 2 ^ 4 * (s / 16) + s % 16 = s := by omega
    apply Nat.eq_of_testBit_eq
    intro i
    rw [Nat.testBit_xor]
    have hm : (s % 16).testBit i = (decide (i < 4) && s.testBit i) := by
      have := Nat.testBit_mod_two_pow s 4 i
      simpa using this
    have hd : (s / 16 * 16).testBit i = (decide (4 ≤ i) && s.testBit i) := by
      have h3 : s / 16 * 16 = (s >>> 4) <<< 4 := by rw [Nat.shiftLeft_eq, Nat.shiftRight_eq_div_pow]
      rw [h3, Nat.testBit_shiftLeft, Nat.testBit_shiftRight]
      by_cases h4 : 4 ≤ i
      · simp [h4, show 4 + (i - 4) = i by omega]
      · simp [h4]
    rw [hm, hd]
    by_cases h4 : i < 4
    · simp [h4, show ¬ 4 ≤ i by omega]
    · simp [h4, show 4 ≤ i by omega]
  conv => lhs; rw [hs]
  rw [halveN_xor, key]
end Go.Proofs.Ytiockkphciadeaa
