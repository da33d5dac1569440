/-
  Up to four bytes of a frame's body turned: plain facts, without the program.
-/
import Derived.Test.YtiockkphciadeaaEvMath
import Derived.Test.YtiockkphciadeaaNoughtsMath
set_option linter.unusedVariables false
namespace Go.Proofs.Ytiockkphciadeaa
open Go.RowKit
open Go.Lib (uvarint)

theorem toNat_xor8 (x y : UInt8) : (x ^^^ y).toNat = x.toNat ^^^ y.toNat := UInt8.toNat_xor x y
theorem crcReg_zip : ∀ (l d : List UInt8) (r s : Nat), l.length = d.length → crcReg (r ^^^ s) (List.zipWith (fun x y => x ^^^ y) l d) = crcReg r l ^^^ crcReg s d
  | [], [], r, s, _ => rfl
  | [], _ :: _, _, _, h => by simp at h
  | _ :: _, [], _, _, h => by simp at h
  | x :: l, y :: d, r, s, h => by
    rw [List.zipWith_cons_cons]
    show crcReg (crcStep (r ^^^ s) (x ^^^ y).toNat) _ = crcReg (crcStep r x.toNat) l ^^^ crcReg (crcStep s y.toNat) d
    rw [← crcReg_zip l d _ _ (by simpa using h)]
    congr 1
    unfold crcStep
    rw [← halveN_xor, toNat_xor8, xor_swap]
/-- the number that some bytes turn -/
def numOf : List UInt8 → Nat
  | [] => 0
  | x :: l => x.toNat + 256 * numOf l
theorem numOf_lt : ∀ l : List UInt8, numOf l < 256 ^ l.length
  | [] => by simp [numOf]
  | x :: l => by
    have h1 := numOf_lt l
    have h2 := x.toNat_lt
    show x.toNat + 256 * numOf l < 256 ^ (l.length + 1)
    rw [Nat.pow_succ]
    omega
theorem numOf_zero : ∀ l : List UInt8, numOf l = 0 → ∀ u ∈ l, u = 0
  | [], _, u, hu => by cases hu
  | x :: l, h, u, hu => by
    have h' : x.toNat + 256 * numOf l = 0 := h
    rcases List.mem_cons.1 hu with rfl | hu
    · exact UInt8.toNat_inj.1 (by show u.toNat = 0; omega)
    · exact numOf_zero l (by omega) u hu
theorem halve_double (m : Nat) : halve (2 * m) = m := by
  unfold halve
  rw [if_neg (by omega)]
  omega
theorem halve8 (q : Nat) : halveN 8 (256 * q) = q := by
  have e : 256 * q = 2 * (2 * (2 * (2 * (2 * (2 * (2 * (2 * q))))))) := by omega
  rw [e]
  show halve (halve (halve (halve (halve (halve (halve (halve _))))))) = q
  rw [halve_double, halve_double, halve_double, halve_double, halve_double, halve_double, halve_double, halve_double]
theorem add_low (x q : Nat) (h : x < 256) : x + 256 * q = x ^^^ 256 * q := by
  have h2 := Nat.two_pow_add_eq_or_of_lt (i := 8) (b := x) (by omega) q
  have h3 : 256 * q ^^^ x = 256 * q ||| x := by
    apply Nat.eq_of_testBit_eq
    intro i
    rw [Nat.testBit_xor, Nat.testBit_or]
    have e : 256 * q = q <<< 8 := by rw [Nat.shiftLeft_eq]; omega
    by_cases hi : i < 8
    · rw [e, Nat.testBit_shiftLeft]; simp [show ¬ 8 ≤ i by omega]
    · have : x.testBit i = false := Nat.testBit_lt_two_pow (Nat.lt_of_lt_of_le h (by have := Nat.pow_le_pow_right (n := 2) (by decide) (show 8 ≤ i by omega); simpa using this))
      rw [this]; simp
  rw [Nat.xor_comm, h3, ← h2]
  omega
theorem crcReg_num : ∀ (l : List UInt8) (r : Nat), crcReg r l = halveN (8 * l.length) (r ^^^ numOf l)
  | [], r => by
    have e : r ^^^ numOf [] = r := Nat.xor_zero r
    rw [e]
    rfl
  | x :: l, r => by
    have e1 : numOf (x :: l) = x.toNat ^^^ 256 * numOf l := add_low _ _ x.toNat_lt
    have e2 : 8 * (x :: l).length = 8 * l.length + 8 := by rw [List.length_cons]; omega
    rw [crcReg_cons, crcReg_num l, e1, e2, ← Nat.xor_assoc, halveN_add, halveN_xor 8, halve8]
    unfold crcStep
    rfl
theorem crcReg_nought (m : Nat) : crcReg 0 (List.replicate m 0) = 0 := by rw [crcReg_zeros, halveN_zero]
/-- what is turned, place by place -/
def turnAt (a i : Nat) (t : List UInt8) (j : Nat) : UInt8 := if a ≤ j ∧ j < a + i then t.getD (j - a) 0 else 0
def turned_ (l : List UInt8) (a i : Nat) (t : List UInt8) : List UInt8 := l.mapIdx fun j x => x ^^^ turnAt a i t j
theorem turned_length (l : List UInt8) (a i : Nat) (t : List UInt8) : (turned_ l a i t).length = l.length := by simp [turned_]
theorem turned_zero (l : List UInt8) (a : Nat) (t : List UInt8) : turned_ l a 0 t = l := by
  unfold turned_
  apply List.ext_getElem
  · simp
  · intro j h1 h2
    rw [List.getElem_mapIdx]
    unfold turnAt
    rw [if_neg (by omega)]
    simp
theorem turned_none {l : List UInt8} {a i : Nat} {t : List UInt8} (h : ∀ u ∈ t.take i, u = 0) : turned_ l a i t = l := by
  unfold turned_
  apply List.ext_getElem
  · simp
  · intro j h1 h2
    rw [List.getElem_mapIdx]
    have : turnAt a i t j = 0 := by
      unfold turnAt
      split
      · rename_i hj
        by_cases ht : j - a < t.length
        · rw [List.getD_eq_getElem?_getD, List.getElem?_eq_getElem ht]
          exact h _ (List.mem_take_iff_getElem.2 ⟨j - a, by omega, rfl⟩)
        · rw [List.getD_eq_getElem?_getD, List.getElem?_eq_none (by omega)]
          rfl
      · rfl
    rw [this]
    simp
theorem turned_step {l : List UInt8} {a i : Nat} {t : List UInt8} {x u : UInt8} (hx : (turned_ l a i t)[a + i]? = some x) (hu : t[i]? = some u) :
    (turned_ l a i t).set (a + i) (x ^^^ u) = turned_ l a (i + 1) t := by
  apply List.ext_getElem
  · simp [turned_]
  · intro j h1 h2
    rw [List.getElem_set]
    have hj : j < l.length := by simpa [turned_] using h2
    by_cases e : a + i = j
    · subst e
      rw [if_pos rfl]
      have hx' : x = l[a + i] := by
        have := (List.getElem?_eq_some_iff.1 hx).2
        rw [← this]
        simp only [turned_, List.getElem_mapIdx]
        unfold turnAt
        rw [if_neg (by omega)]
        simp
      simp only [turned_, List.getElem_mapIdx]
      rw [hx']
      unfold turnAt
      rw [if_pos (by omega), show a + i - a = i by omega, List.getD_eq_getElem?_getD, hu]
      rfl
    · rw [if_neg e]
      simp only [turned_, List.getElem_mapIdx]
      congr 1
      unfold turnAt
      by_cases c : a ≤ j ∧ j < a + i
      · rw [if_pos c, if_pos (by omega)]
      · rw [if_neg c, if_neg (by omega)]
theorem turned_crc {l : List UInt8} {a i : Nat} {t : List UInt8} (hi : i ≤ 4) (ht : t.length = 4) (ha : a + i ≤ l.length) (h : crc (turned_ l a i t) = crc l) : ∀ u ∈ t.take i, u = 0 := by
  have hd : turned_ l a i t = List.zipWith (fun x y => x ^^^ y) l (List.replicate a 0 ++ (t.take i ++ List.replicate (l.length - (a + i)) 0)) := by
    have hlen : (t.take i).length = i := by rw [List.length_take]; omega
    apply List.ext_getElem
    · simp [turned_, ht]; omega
    · intro j h1 h2
      have hj : j < l.length := by simpa [turned_] using h1
      simp only [turned_, List.getElem_mapIdx, List.getElem_zipWith]
      congr 1
      unfold turnAt
      by_cases c1 : j < a
      · rw [if_neg (by omega), List.getElem_append_left (by simpa using c1), List.getElem_replicate]
      · by_cases c2 : j < a + i
        · rw [if_pos (by omega), List.getElem_append_right (by simp; omega), List.getElem_append_left (by simp; omega), List.getElem_take]
          rw [List.getD_eq_getElem?_getD, List.getElem?_eq_getElem (by omega)]
          simp
        · rw [if_neg (by omega), List.getElem_append_right (by simp; omega), List.getElem_append_right (by simp; omega), List.getElem_replicate]
  have h1 := crc_inj h
  rw [hd] at h1
  have h2 := crcReg_zip l (List.replicate a 0 ++ (t.take i ++ List.replicate (l.length - (a + i)) 0)) 4294967295 0 (by simp [ht]; omega)
  rw [Nat.xor_zero, h1] at h2
  have h3 : crcReg 0 (List.replicate a 0 ++ (t.take i ++ List.replicate (l.length - (a + i)) 0)) = 0 := by
    have h4 : crcReg 4294967295 l ^^^ crcReg 4294967295 l = crcReg 4294967295 l ^^^ (crcReg 4294967295 l ^^^ crcReg 0 (List.replicate a 0 ++ (t.take i ++ List.replicate (l.length - (a + i)) 0))) := by rw [← h2]
    rw [Nat.xor_self, ← Nat.xor_assoc, Nat.xor_self, Nat.zero_xor] at h4
    exact h4.symm
  rw [crcReg_append, crcReg_nought, crcReg_append, crcReg_zeros] at h3
  have hlt : crcReg 0 (t.take i) < 4294967296 := crcReg_lt _ (by decide)
  have h5 := halveN_eq_zero _ hlt h3
  rw [crcReg_num, Nat.zero_xor] at h5
  have hn : numOf (t.take i) < 4294967296 := by
    have := numOf_lt (t.take i)
    have h6 : 256 ^ (t.take i).length ≤ 256 ^ 4 := Nat.pow_le_pow_right (by decide) (by rw [List.length_take]; omega)
    have h7 : (256 : Nat) ^ 4 = 4294967296 := by decide
    omega
  exact numOf_zero _ (halveN_eq_zero _ hn h5)

/-- the frame with another body as long -/
def frameAs (b b' : List UInt8) : List UInt8 := uvarint b.length ++ (b' ++ sumBytes (crc b))
theorem frameAs_self (es : List Ev) : frameAs (bodyOf es) (bodyOf es) = frameOf es := rfl
theorem rd_turned {b b' : List UInt8} (hl : b'.length = b.length) (hb : b.length ≤ 262144) (hc : crc b' ≠ crc b) : rdFrame (frameAs b b') 0 = ([], 0, 12) := by
  have hg : getU ((frameAs b b').drop 0) = (b.length, (uvarint b.length).length, 0) := by
    rw [List.drop_zero]; unfold frameAs; exact getU_uvarint _ (by omega)
  have hlen : (frameAs b b').length = (uvarint b.length).length + b.length + 4 := by
    unfold frameAs
    rw [List.length_append, List.length_append, sumBytes_length, hl]; omega
  unfold rdFrame
  rw [hg]
  simp only [Nat.zero_add]
  rw [if_neg (by simp), if_neg (by omega), if_neg (by omega)]
  have e2 : ((frameAs b b').drop (uvarint b.length).length).take b.length = b' := by
    unfold frameAs
    rw [List.drop_left, ← hl, List.take_left]
  have e3 : ((frameAs b b').drop ((uvarint b.length).length + b.length)).take 4 = sumBytes (crc b) := by
    unfold frameAs
    rw [← List.drop_drop, List.drop_left, ← hl, List.drop_left, List.take_of_length_le (by rw [sumBytes_length]; omega)]
  rw [e2, e3, if_pos]
  intro e
  exact hc (sumBytes_inj (crc_lt _) (crc_lt _) e).symm
theorem frameAs_set {b b' : List UInt8} (k : Nat) (u : UInt8) (hk : k < b'.length) : (frameAs b b').set ((uvarint b.length).length + k) u = frameAs b (b'.set k u) := by
  unfold frameAs
  rw [List.set_append_right _ _ (by omega), show (uvarint b.length).length + k - (uvarint b.length).length = k by omega, List.set_append_left _ _ hk]
theorem frameAs_get {b b' : List UInt8} {k : Nat} {x : UInt8} (hx : b'[k]? = some x) : (frameAs b b')[(uvarint b.length).length + k]? = some x := by
  have hk := (List.getElem?_eq_some_iff.1 hx).1
  unfold frameAs
  rw [List.getElem?_append_right (by omega), show (uvarint b.length).length + k - (uvarint b.length).length = k by omega, List.getElem?_append_left hk]
  exact hx
/-- where a number ends -/
theorem uvarint_ends : ∀ (n j : Nat), j < (uvarint n).length → ∃ u, (uvarint n)[j]? = some u ∧ (128 ≤ u.toNat ↔ j + 1 < (uvarint n).length)
  | n, 0, h => by
    by_cases hs : n < 128
    · rw [Lib.uvarint_small hs]
      refine ⟨_, rfl, ?_⟩
      rw [byte_toNat (by omega)]
      simp; omega
    · rw [Lib.uvarint_big (by omega)]
      refine ⟨_, rfl, ?_⟩
      rw [byte_toNat (by omega)]
      have := Lib.uvarint_pos (n / 128)
      rw [List.length_cons]
      omega
  | n, j + 1, h => by
    by_cases hs : n < 128
    · rw [Lib.uvarint_small hs] at h
      simp at h
    · rw [Lib.uvarint_big (by omega)] at h ⊢
      obtain ⟨u, hu, hi⟩ := uvarint_ends (n / 128) j (by simpa using h)
      refine ⟨u, by rw [List.getElem?_cons_succ]; exact hu, ?_⟩
      rw [hi, List.length_cons]
      omega
end Go.Proofs.Ytiockkphciadeaa
