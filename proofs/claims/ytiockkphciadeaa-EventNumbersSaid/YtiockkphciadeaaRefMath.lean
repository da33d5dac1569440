/-
  What the definition's GetUint looks for is what a scan from the left finds.
-/
import Derived.Test.YtiockkphciadeaaRefC
namespace Go.Proofs.Ytiockkphciadeaa
open Go.Lib (uvarint uvarint_small uvarint_big)

theorem scan_sound : ∀ (f j acc : Nat) (l : List UInt8) (v k : Nat), scan f j acc l = (v, k, 0) →
    ∃ t r, v = acc + t * 2 ^ (7 * j) ∧ l = uvarint t ++ r ∧ k = j + (uvarint t).length ∧ (0 < j → 0 < t)
  | 0, _, _, _, _, _, h => by simp [scan] at h
  | f + 1, j, acc, [], _, _, h => by simp [scan] at h
  | f + 1, j, acc, x :: r, v, k, h => by
    have hxl := x.toNat_lt
    rw [scan] at h
    split at h
    · rename_i hm
      split at h
      · rename_i hx
        simp only [Prod.mk.injEq, and_true] at h
        refine ⟨x.toNat, r, ?_, ?_, ?_, ?_⟩
        · rw [← h.1, Nat.mod_eq_of_lt hx]
        · rw [uvarint_small hx]; simp
        · rw [uvarint_small hx, ← h.2]; rfl
        · intro hj
          rcases Nat.eq_zero_or_pos x.toNat with h0 | h0
          · rw [h0] at hm
            simp [mayB] at hm
            omega
          · exact h0
      · rename_i hx
        obtain ⟨t, r', hv, hr, hk, ht⟩ := scan_sound f (j + 1) _ r v k h
        have ht0 := ht (Nat.succ_pos j)
        refine ⟨x.toNat % 128 + 128 * t, r', ?_, ?_, ?_, fun _ => by omega⟩
        · rw [hv, show 7 * (j + 1) = 7 * j + 7 by omega, Nat.pow_add, Nat.add_mul, Nat.add_assoc]
          congr 2
          rw [show (2 : Nat) ^ 7 = 128 by decide, Nat.mul_comm 128 t, Nat.mul_assoc, Nat.mul_comm 128]
        · rw [uvarint_big (by omega), show (x.toNat % 128 + 128 * t) % 128 + 128 = x.toNat by omega, show (x.toNat % 128 + 128 * t) / 128 = t by omega, List.cons_append, ← hr]
          simp
        · rw [uvarint_big (by omega), show (x.toNat % 128 + 128 * t) / 128 = t by omega, List.length_cons, hk]; omega
    · simp at h
theorem getU_sound {l : List UInt8} {v k : Nat} (h : getU l = (v, k, 0)) : ∃ r, l = uvarint v ++ r ∧ k = (uvarint v).length := by
  obtain ⟨t, r, hv, hl, hk, _⟩ := scan_sound 10 0 0 l v k h
  have : v = t := by simpa using hv
  subst this
  exact ⟨r, hl, by simpa using hk⟩
theorem weigh_lt (l : List UInt8) : weigh l < 18446744073709551616 := by
  cases l with
  | nil => decide
  | cons x r => exact Nat.mod_lt _ (by decide)
theorem weigh_uvarint (x : Nat) (hx : x < 18446744073709551616) : weigh (uvarint x) = x := by
  induction x using Nat.strongRecOn with
  | _ x ih =>
    by_cases h : x < 128
    · rw [uvarint_small h]
      show (x.toUInt8.toNat % 128 + 128 * 0) % 18446744073709551616 = x
      rw [byte_toNat (by omega)]; omega
    · rw [uvarint_big (by omega)]
      show ((x % 128 + 128).toUInt8.toNat % 128 + 128 * weigh (uvarint (x / 128))) % 18446744073709551616 = x
      rw [ih (x / 128) (by omega) (by omega), byte_toNat (by omega)]; omega
theorem num_at {l : List UInt8} {k : Nat} (hk : k ≤ l.length) : uvarint (weigh (l.take k)) = l.take k ↔ (getU l).2 = (k, 0) := by
  constructor
  · intro h
    have e : l = uvarint (weigh (l.take k)) ++ l.drop k := by rw [h, List.take_append_drop]
    have hl : (uvarint (weigh (l.take k))).length = k := by rw [h, List.length_take]; omega
    conv => lhs; rw [e]
    rw [getU_uvarint _ (weigh_lt _), hl]
  · intro h
    have h' : getU l = ((getU l).1, k, 0) := by rw [← h]
    obtain ⟨r, hl, hk'⟩ := getU_sound h'
    have ht : l.take k = uvarint (getU l).1 := by
      conv => lhs; rw [hl]
      rw [hk', List.take_left]
    rw [ht, weigh_uvarint _ (getU_lt l)]
theorem num_is {l : List UInt8} {k : Nat} (hk : k ≤ l.length) (h : uvarint (weigh (l.take k)) = l.take k) : getU l = (weigh (l.take k), k, 0) := by
  have e : l = uvarint (weigh (l.take k)) ++ l.drop k := by rw [h, List.take_append_drop]
  have hl : (uvarint (weigh (l.take k))).length = k := by rw [h, List.length_take]; omega
  conv => lhs; rw [e]
  rw [getU_uvarint _ (weigh_lt _), hl]
theorem scan_snoc : ∀ (f j acc : Nat) (l : List UInt8), l.length < f → (scan f j acc l = (0, 0, 11) ↔ (scan f j acc (l ++ [1])).2 = (j + l.length + 1, 0))
  | 0, _, _, _, h => by omega
  | f + 1, j, acc, [], h => by simp [scan, mayB]
  | f + 1, j, acc, x :: r, h => by
    have ih := scan_snoc f (j + 1) (acc + x.toNat % 128 * 2 ^ (7 * j)) r (by simpa using h)
    rw [List.cons_append, scan, scan]
    split
    · split
      · simp
      · rw [ih, List.length_cons, show j + 1 + r.length + 1 = j + (r.length + 1) + 1 by omega]
    · simp
theorem scan_long : ∀ (f j acc : Nat) (l : List UInt8), f ≤ l.length → (scan f j acc l).2.2 ≠ 11
  | 0, _, _, _, _ => by simp [scan]
  | f + 1, j, acc, [], h => by simp at h
  | f + 1, j, acc, x :: r, h => by
    have ih := scan_long f (j + 1) (acc + x.toNat % 128 * 2 ^ (7 * j)) r (by simpa using h)
    rw [scan]
    split
    · split
      · simp
      · exact ih
    · simp
theorem scan_kind : ∀ (f j acc : Nat) (l : List UInt8), (scan f j acc l).2.2 = 0 ∨ scan f j acc l = (0, 0, 10) ∨ scan f j acc l = (0, 0, 11)
  | 0, _, _, _ => .inr (.inl rfl)
  | f + 1, j, acc, [] => .inr (.inr rfl)
  | f + 1, j, acc, x :: r => by
    rw [scan]
    split
    · split
      · exact .inl rfl
      · exact scan_kind f _ _ r
    · exact .inr (.inl rfl)
theorem short_yes {l : List UInt8} (h : l.length + 1 ≤ 10) (he : uvarint (weigh (l ++ [1])) = l ++ [1]) : getU l = (0, 0, 11) := by
  have hlen : (l ++ [1]).length = l.length + 1 := by simp
  have h1 := (num_at (l := l ++ [1]) (k := l.length + 1) (by omega)).1
  rw [List.take_of_length_le (by omega)] at h1
  have h2 := h1 he
  exact (scan_snoc 10 0 0 l (by omega)).2 (by rw [Nat.zero_add]; exact h2)
theorem short_no {l : List UInt8} (h0 : (getU l).2.2 ≠ 0) (h : ¬ (l.length + 1 ≤ 10 ∧ uvarint (weigh (l ++ [1])) = l ++ [1])) : getU l = (0, 0, 10) := by
  rcases scan_kind 10 0 0 l with hk | hk | hk
  · exact absurd hk h0
  · exact hk
  · exfalso
    have hlen : (l ++ [1]).length = l.length + 1 := by simp
    have hs : l.length + 1 ≤ 10 := by
      by_cases hl : 10 ≤ l.length
      · exact absurd (by rw [hk]) (scan_long 10 0 0 l hl)
      · omega
    refine h ⟨hs, ?_⟩
    have h1 := (num_at (l := l ++ [1]) (k := l.length + 1) (by omega)).2
    rw [List.take_of_length_le (by omega)] at h1
    refine h1 ?_
    have := (scan_snoc 10 0 0 l (by omega)).1 hk
    rwa [Nat.zero_add] at this
theorem getU_ten {l : List UInt8} (h : (getU l).2.2 = 0) : (getU l).2.1 ≤ 10 := by
  have h' : getU l = ((getU l).1, (getU l).2.1, 0) := by rw [← h]
  obtain ⟨r, hl, hk⟩ := getU_sound h'
  rw [hk]
  exact Lib.uvarint_length64 (getU_lt l)
end Go.Proofs.Ytiockkphciadeaa
