/-
  What is put is got; frames that are cut, or of which a byte is another one: plain facts, without the program.
-/
import Derived.Test.YtiockkphciadeaaEvTurnMath
set_option linter.unusedVariables false
namespace Go.Proofs.Ytiockkphciadeaa
open Go.RowKit
open Go.Lib (uvarint)

theorem len_add (a b : List UInt8) : (a ++ b).length = a.length + b.length := List.length_append
theorem encEvs_append : ∀ (a b : List Ev) (p : Ev), encEvs p (a ++ b) = encEvs p a ++ encEvs (lastEv p a) b
  | [], _, _ => rfl
  | x :: a, b, p => by
    show encEv p x ++ encEvs x (a ++ b) = (encEv p x ++ encEvs x a) ++ _
    rw [encEvs_append a b x, List.append_assoc]
    rfl
theorem put_step {b : List UInt8} {l : List Ev} {j : Nat} {x : Ev} (hx : l[j]? = some x) : b ++ encEvs Ev.zero (l.take (j + 1)) = (b ++ encEvs Ev.zero (l.take j)) ++ encEv (lastEv Ev.zero (l.take j)) x := by
  obtain ⟨hj, ex⟩ := List.getElem?_eq_some_iff.1 hx
  rw [List.take_succ_eq_append_getElem hj, ex, encEvs_snoc, List.append_assoc]
theorem last_step {l : List Ev} {j : Nat} {x : Ev} (hx : l[j]? = some x) : lastEv Ev.zero (l.take (j + 1)) = x := by
  obtain ⟨hj, ex⟩ := List.getElem?_eq_some_iff.1 hx
  rw [List.take_succ_eq_append_getElem hj, ex, lastEv_snoc]
theorem get_step {b : List UInt8} {l : List Ev} {j : Nat} {x : Ev} (hx : l[j]? = some x) (ho : x.ok) :
    getEv (lastEv Ev.zero (l.take j)) (b ++ encEvs Ev.zero l) (b ++ encEvs Ev.zero (l.take j)).length = (x, (b ++ encEvs Ev.zero (l.take (j + 1))).length, 0) := by
  obtain ⟨hj, ex⟩ := List.getElem?_eq_some_iff.1 hx
  have e : b ++ encEvs Ev.zero l = (b ++ encEvs Ev.zero (l.take j)) ++ (encEv (lastEv Ev.zero (l.take j)) x ++ encEvs x (l.drop (j + 1))) := by
    conv => lhs; rw [← List.take_append_drop j l, encEvs_append, List.drop_eq_getElem_cons hj, ex]
    rw [List.append_assoc]
    rfl
  have hd : (b ++ encEvs Ev.zero l).drop (b ++ encEvs Ev.zero (l.take j)).length = encEv (lastEv Ev.zero (l.take j)) x ++ encEvs x (l.drop (j + 1)) := by
    conv => lhs; rw [e, List.drop_left]
  rw [getEv_enc ho hd, put_step hx, len_add (b ++ encEvs Ev.zero (l.take j)) _]
theorem get_rise {b : List UInt8} {l : List Ev} {j : Nat} {x : Ev} (hx : l[j]? = some x) : (b ++ encEvs Ev.zero (l.take j)).length < (b ++ encEvs Ev.zero (l.take (j + 1))).length := by
  rw [put_step hx, len_add (b ++ encEvs Ev.zero (l.take j)) _]
  have := encEv_least (lastEv Ev.zero (l.take j)) x
  omega
theorem put_le (b : List UInt8) (l : List Ev) (j : Nat) : (b ++ encEvs Ev.zero (l.take j)).length ≤ (b ++ encEvs Ev.zero l).length := by
  have e : encEvs Ev.zero l = encEvs Ev.zero (l.take j) ++ encEvs (lastEv Ev.zero (l.take j)) (l.drop j) := by
    conv => lhs; rw [← List.take_append_drop j l, encEvs_append]
  rw [e, List.length_append, List.length_append, List.length_append]
  omega
theorem put_most {b : List UInt8} {l : List Ev} (hb : b.length ≤ 2000) (hl : l.length ≤ 300) (j : Nat) : (b ++ encEvs Ev.zero (l.take j)).length ≤ 14300 := by
  have h1 := encEvs_most (l.take j) Ev.zero
  rw [List.length_take] at h1
  rw [List.length_append]
  omega
/-- a number that is cut wants bytes -/
theorem scan_cut : ∀ (f j x acc k : Nat), f + j = 10 → (j = 0 ∨ 0 < x) → x * 2 ^ (7 * j) < 18446744073709551616 → k < (uvarint x).length → scan f j acc ((uvarint x).take k) = (0, 0, 11)
  | 0, j, x, acc, k, hf, hx0, hx, hk => by
    obtain rfl : j = 10 := by omega
    have h70 : (2 : Nat) ^ (7 * 10) = 1180591620717411303424 := by decide
    rw [h70] at hx
    omega
  | f + 1, j, x, acc, 0, _, _, _, _ => rfl
  | f + 1, j, x, acc, k + 1, hf, hx0, hx, hk => by
    have h9 : j = 9 → x < 2 := by
      rintro rfl
      rw [show 2 ^ (7 * 9) = 9223372036854775808 by decide] at hx
      omega
    by_cases hs : x < 128
    · rw [Lib.uvarint_small hs] at hk
      simp at hk
    · rw [Lib.uvarint_big (by omega)] at hk ⊢
      have hb : ((x % 128 + 128).toUInt8).toNat = x % 128 + 128 := byte_toNat (by omega)
      have hj : j < 9 := by
        by_cases hj : j < 9
        · exact hj
        · have := h9 (by omega); omega
      have hm : mayB (x % 128 + 128) j = true := by
        unfold mayB
        rw [if_neg (by omega)]
        simp [hj]
      have hp : 2 ^ (7 * (j + 1)) = 128 * 2 ^ (7 * j) := by
        rw [show 7 * (j + 1) = 7 + 7 * j by omega, Nat.pow_add]
      have hle : x / 128 * 2 ^ (7 * (j + 1)) ≤ x * 2 ^ (7 * j) := by
        rw [hp, ← Nat.mul_assoc]
        exact Nat.mul_le_mul_right _ (by omega)
      rw [List.take_succ_cons, scan, hb, if_pos hm, if_neg (by omega)]
      exact scan_cut f (j + 1) (x / 128) _ k (by omega) (.inr (by omega)) (Nat.lt_of_le_of_lt hle hx) (by simpa using hk)
theorem rd_cut {es : List Ev} (he : Evs es) {k : Nat} (hk : k < (frameOf es).length) : rdFrame ((frameOf es).take k) 0 = ([], 0, 11) := by
  have hm := bodyOf_most he.most
  rw [frameOf_length] at hk
  by_cases hh : k < (uvarint (bodyOf es).length).length
  · have e : (frameOf es).take k = (uvarint (bodyOf es).length).take k := by
      unfold frameOf
      rw [List.take_append_of_le_length (by omega)]
    have hg : getU (((frameOf es).take k).drop 0) = (0, 0, 11) := by
      rw [List.drop_zero, e]
      exact scan_cut 10 0 _ 0 k rfl (.inl rfl) (by simp; omega) hh
    unfold rdFrame
    rw [hg]
    rfl
  · have e : (frameOf es).take k = uvarint (bodyOf es).length ++ (sealed (bodyOf es)).take (k - (uvarint (bodyOf es).length).length) := by
      unfold frameOf
      rw [List.take_append, List.take_of_length_le (by omega)]
    have hg : getU (((frameOf es).take k).drop 0) = ((bodyOf es).length, (uvarint (bodyOf es).length).length, 0) := by
      rw [List.drop_zero, e]
      exact getU_uvarint _ (by omega)
    have hl : ((frameOf es).take k).length ≤ k := by rw [List.length_take]; omega
    unfold rdFrame
    rw [hg]
    simp only
    rw [if_neg (by simp), if_neg (by omega), if_pos (by omega)]
theorem rd_other {es : List Ev} {k : Nat} {x u : UInt8} (hx : (frameOf es)[k]? = some x) (hu : u ≠ 0) (h : (rdFrame ((frameOf es).set k (x ^^^ u)) 0).2.2 = 0) : (rdFrame ((frameOf es).set k (x ^^^ u)) 0).1 ≠ es := by
  intro e
  obtain ⟨_, r, hd, _⟩ := rdFrame_sound h
  rw [e, List.drop_zero] at hd
  have hl := congrArg List.length hd
  rw [List.length_set, List.length_append] at hl
  have hr : r = [] := List.eq_nil_of_length_eq_zero (by omega)
  rw [hr, List.append_nil] at hd
  have hk := (List.getElem?_eq_some_iff.1 hx).1
  have h1 : ((frameOf es).set k (x ^^^ u))[k]? = some (x ^^^ u) := by rw [List.getElem?_set_self hk]
  rw [hd, hx] at h1
  have h2 := congrArg UInt8.toNat (Option.some.inj h1)
  rw [toNat_xor8] at h2
  have h3 : x.toNat ^^^ (x.toNat ^^^ u.toNat) = x.toNat ^^^ x.toNat := by rw [← h2]
  rw [← Nat.xor_assoc, Nat.xor_self, Nat.zero_xor] at h3
  exact hu (UInt8.toNat_inj.1 h3)
/-- what is read of any bytes, framed again -/
theorem rd_back {b : List UInt8} (h : (rdFrame b 0).2.2 = 0) : Evs (rdFrame b 0).1 ∧ b.take (rdFrame b 0).2.1 = frameOf (rdFrame b 0).1 ∧ 1 ≤ (rdFrame b 0).2.1 ∧ (rdFrame b 0).2.1 ≤ b.length := by
  obtain ⟨he, r, hd, hn⟩ := rdFrame_sound h
  rw [List.drop_zero] at hd
  rw [Nat.zero_add] at hn
  have hl := frameOf_length (rdFrame b 0).1
  refine ⟨he, ?_, by omega, ?_⟩
  · rw [hn]
    generalize frameOf (rdFrame b 0).1 = q at hd
    rw [hd, List.take_left]
  · have := congrArg List.length hd
    rw [List.length_append] at this
    omega
end Go.Proofs.Ytiockkphciadeaa
