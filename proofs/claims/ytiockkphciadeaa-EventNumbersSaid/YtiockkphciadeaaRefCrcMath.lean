/-
  The sum as the definition puts it together, of what each single bit weighs, is the register's.
-/
import Derived.Test.YtiockkphciadeaaRefA
namespace Go.Proofs.Ytiockkphciadeaa

def bitAt (l : List UInt8) (i : Nat) : Nat := ((l[i / 8]?).getD 0).toNat / 2 ^ (i % 8) % 2
def proc (l : List UInt8) : Nat → Nat → Nat → Nat
  | 0, _, r => r
  | m + 1, i, r => proc l m (i + 1) (halve (r ^^^ bitAt l i))
theorem proc_xor (l : List UInt8) : ∀ (m i r s : Nat), proc l m i (r ^^^ s) = proc l m i r ^^^ halveN m s
  | 0, _, _, _ => rfl
  | m + 1, i, r, s => by
    show proc l m (i + 1) (halve ((r ^^^ s) ^^^ bitAt l i)) = _
    rw [show (r ^^^ s) ^^^ bitAt l i = (r ^^^ bitAt l i) ^^^ s by rw [Nat.xor_assoc, Nat.xor_comm s, ← Nat.xor_assoc], halve_xor, proc_xor l m]
    rfl
theorem bitAt_lt (l : List UInt8) (i : Nat) : bitAt l i < 2 := Nat.mod_lt _ (by decide)
theorem proc_lt (l : List UInt8) : ∀ (m i r : Nat), r < 4294967296 → proc l m i r < 4294967296
  | 0, _, _, h => h
  | m + 1, i, r, h => proc_lt l m _ _ (halve_lt (Nat.xor_lt_two_pow (n := 32) h (by have := bitAt_lt l i; omega)))
theorem halve_two (a c : Nat) (hc : c < 2) : halve (2 * a + c) = a ^^^ (if c = 1 then halve 1 else 0) := by
  rcases (show c = 0 ∨ c = 1 by omega) with rfl | rfl
  · unfold halve
    rw [if_neg (by omega), show (2 * a + 0) / 2 = a by omega]
    simp
  · unfold halve
    rw [if_pos (by omega), show (2 * a + 1) / 2 = a by omega]
    simp
theorem xor_low (a t : Nat) (ht : t < 2) : (2 * a + 1) ^^^ t = 2 * a + (1 - t) := by
  have h1 := half_xor (2 * a + 1) t
  have h2 := odd_xor (2 * a + 1) t
  rw [show t / 2 = 0 by omega, Nat.xor_zero] at h1
  omega
/-- what is still in the register that was all ones, i bits on -/
def left_ (i : Nat) : Nat := 2 ^ (32 - i) - 1
theorem left_lt (i : Nat) : left_ i < 4294967296 := by
  unfold left_
  have : 2 ^ (32 - i) ≤ 2 ^ 32 := Nat.pow_le_pow_right (by decide) (by omega)
  omega
def turned (t i : Nat) : Nat := if decide (t = 1) != decide (i < 32) then 1 else 0
theorem left_step (i t : Nat) (ht : t < 2) : left_ i ^^^ t = 2 * left_ (i + 1) + turned t i := by
  unfold left_ turned
  by_cases hi : i < 32
  · have e : 2 ^ (32 - i) = 2 * 2 ^ (32 - (i + 1)) := by rw [show 32 - i = (32 - (i + 1)) + 1 by omega, Nat.pow_succ, Nat.mul_comm]
    have hp : 0 < 2 ^ (32 - (i + 1)) := Nat.pow_pos (by decide)
    rw [e, show 2 * 2 ^ (32 - (i + 1)) - 1 = 2 * (2 ^ (32 - (i + 1)) - 1) + 1 by omega, xor_low _ _ ht]
    rcases (show t = 0 ∨ t = 1 by omega) with rfl | rfl <;> simp [hi]
  · rw [show 32 - i = 0 by omega, show 32 - (i + 1) = 0 by omega]
    rcases (show t = 0 ∨ t = 1 by omega) with rfl | rfl <;> simp [hi]
/-- the sum, as far as the bits from i on are in it -/
def tell (l : List UInt8) (n i : Nat) : Nat := proc l (n - i) i (left_ i)
theorem tell_lt (l : List UInt8) (n i : Nat) : tell l n i < 4294967296 := proc_lt l _ _ _ (left_lt i)
theorem tell_end (l : List UInt8) (n : Nat) : tell l n n = left_ n := by
  unfold tell
  rw [Nat.sub_self]
  rfl
theorem tell_step (l : List UInt8) (n i : Nat) (hi : i < n) : tell l n i = tell l n (i + 1) ^^^ (if turned (bitAt l i) i = 1 then halveN (n - i) 1 else 0) := by
  unfold tell
  rw [show n - i = (n - (i + 1)) + 1 by omega]
  show proc l (n - (i + 1)) (i + 1) (halve (left_ i ^^^ bitAt l i)) = _
  have ht : turned (bitAt l i) i < 2 := by unfold turned; split <;> omega
  rw [left_step _ _ (bitAt_lt l i), halve_two _ _ ht, proc_xor]
  congr 1
  split
  · rfl
  · exact halveN_zero _
theorem halve_in (r y : Nat) : halve (r ^^^ y) = halve (r ^^^ y % 2) ^^^ y / 2 := by
  have e : y = y % 2 ^^^ (2 * (y / 2)) := by
    have h1 := half_xor (y % 2) (2 * (y / 2))
    have h2 := odd_xor (y % 2) (2 * (y / 2))
    rw [show y % 2 / 2 = 0 by omega, Nat.zero_xor] at h1
    omega
  have h0 := halve_two (y / 2) 0 (by decide)
  simp at h0
  conv => lhs; rw [e, ← Nat.xor_assoc, halve_xor, h0]
theorem proc_byte (l : List UInt8) (j : Nat) (x : UInt8) (hx : l[j]? = some x) : ∀ (d m r : Nat), d ≤ 8 →
    proc l (d + m) (8 * j + (8 - d)) r = proc l m (8 * j + 8) (halveN d (r ^^^ x.toNat / 2 ^ (8 - d)))
  | 0, m, r, _ => by
    have := x.toNat_lt
    rw [show x.toNat / 2 ^ (8 - 0) = 0 by simp; omega, Nat.xor_zero, Nat.zero_add]
    rfl
  | d + 1, m, r, hd => by
    rw [show d + 1 + m = (d + m) + 1 by omega]
    show proc l (d + m) (8 * j + (8 - (d + 1)) + 1) (halve (r ^^^ bitAt l (8 * j + (8 - (d + 1))))) = _
    have hb : bitAt l (8 * j + (8 - (d + 1))) = x.toNat / 2 ^ (8 - (d + 1)) % 2 := by
      unfold bitAt
      rw [show (8 * j + (8 - (d + 1))) / 8 = j by omega, show (8 * j + (8 - (d + 1))) % 8 = 8 - (d + 1) by omega, hx]
      rfl
    have hy : x.toNat / 2 ^ (8 - d) = x.toNat / 2 ^ (8 - (d + 1)) / 2 := by
      rw [Nat.div_div_eq_div_mul, ← Nat.pow_succ, show (8 - (d + 1)).succ = 8 - d by omega]
    rw [show 8 * j + (8 - (d + 1)) + 1 = 8 * j + (8 - d) by omega, proc_byte l j x hx d m _ (by omega), hb, hy, ← halve_in]
    rfl
theorem proc_bytes (l : List UInt8) : ∀ (t : List UInt8) (j r : Nat), l.drop j = t → proc l (8 * t.length) (8 * j) r = crcReg r t
  | [], _, _, _ => rfl
  | x :: t, j, r, h => by
    have hx : l[j]? = some x := by
      have := congrArg (·[0]?) h
      simpa using this
    have ht : l.drop (j + 1) = t := by rw [← List.drop_drop, h]; rfl
    have hp := proc_byte l j x hx 8 (8 * t.length) r (Nat.le_refl _)
    rw [Nat.sub_self, Nat.pow_zero, Nat.div_one, Nat.add_zero] at hp
    rw [List.length_cons, show 8 * (t.length + 1) = 8 + 8 * t.length by omega, hp, show 8 * j + 8 = 8 * (j + 1) by omega, proc_bytes l t (j + 1) _ ht]
    rfl
theorem tell_zero (l : List UInt8) : tell l (8 * l.length) 0 = crcReg 4294967295 l := by
  have := proc_bytes l l 0 4294967295 rfl
  rw [Nat.mul_zero] at this
  exact this
/-- what of the register is left, counted down -/
def still (n d : Nat) : Nat := 2 ^ (32 - n) - 2 ^ d
theorem still_step (k d : Nat) (hd : d < 32) (h : 8 * k + d < 32) : still (8 * k) d = still (8 * k) (d + 1) ^^^ 2 ^ d := by
  have hk : k < 4 := by omega
  have hall : ∀ k < 4, ∀ d < 32, 8 * k + d < 32 → still (8 * k) d = still (8 * k) (d + 1) ^^^ 2 ^ d := by decide +kernel
  exact hall k hk d hd h
theorem still_none (n d : Nat) (h : ¬ n + d < 32) : still n d = still n (d + 1) := by
  unfold still
  have h1 : 2 ^ (32 - n) ≤ 2 ^ d := Nat.pow_le_pow_right (by decide) (by omega)
  have h2 : 2 ^ (32 - n) ≤ 2 ^ (d + 1) := Nat.pow_le_pow_right (by decide) (by omega)
  omega
theorem still_begin (n : Nat) : still n 32 = 0 := by
  unfold still
  have h1 : 2 ^ (32 - n) ≤ 2 ^ 32 := Nat.pow_le_pow_right (by decide) (by omega)
  omega
theorem still_end (n : Nat) : still n 0 = left_ n := rfl
theorem still_lt (n d : Nat) : still n d < 4294967296 := by
  unfold still
  have h1 : 2 ^ (32 - n) ≤ 2 ^ 32 := Nat.pow_le_pow_right (by decide) (by omega)
  have h2 : 0 < 2 ^ d := Nat.pow_pos (by decide)
  omega
end Go.Proofs.Ytiockkphciadeaa
