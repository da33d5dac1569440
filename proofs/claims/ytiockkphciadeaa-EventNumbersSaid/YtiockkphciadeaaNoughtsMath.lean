/-
  The sum sees noughts: the register behind 8 m halvings (m from 1 to 200) is another one, unless it is 0. By an inverse for each m, checked by the kernel at one vector of which all others are halvings.
-/
import Derived.Test.YtiockkphciadeaaMath
namespace Go.Proofs.Ytiockkphciadeaa

/-- the sum, over the set bits of q, of x halved so often -/
def ap : Nat → Nat → Nat → Nat
  | 0, _, _ => 0
  | k + 1, q, x => (if q % 2 = 1 then x else 0) ^^^ ap k (q / 2) (halve x)
theorem xor_swap (a b c d : Nat) : (a ^^^ b) ^^^ (c ^^^ d) = (a ^^^ c) ^^^ (b ^^^ d) := by
  rw [Nat.xor_assoc, Nat.xor_assoc, ← Nat.xor_assoc b c d, Nat.xor_comm b c, Nat.xor_assoc]
theorem ap_xor (k q x y : Nat) : ap k q (x ^^^ y) = ap k q x ^^^ ap k q y := by
  induction k generalizing q x y with
  | zero => simp [ap]
  | succ k ih =>
    rw [ap, ap, ap, halve_xor, ih, xor_swap]
    by_cases h : q % 2 = 1
    · rw [if_pos h, if_pos h, if_pos h]
    · rw [if_neg h, if_neg h, if_neg h, Nat.xor_self]
theorem ap_halve (k q x : Nat) : ap k q (halve x) = halve (ap k q x) := by
  induction k generalizing q x with
  | zero => simp [ap, halve]
  | succ k ih =>
    rw [ap, ap, ih (q / 2) (halve x), halve_xor]
    by_cases h : q % 2 = 1
    · rw [if_pos h, if_pos h]
    · rw [if_neg h, if_neg h]; rfl
theorem ap_zero (k q : Nat) : ap k q 0 = 0 := by
  have h := ap_xor k q 0 0
  rwa [Nat.xor_self, Nat.xor_self] at h

/-- a step that is linear, goes with halving and leaves one vector leaves all -/
def turn (j q x : Nat) : Nat := ap 32 q (halveN j x ^^^ x)
theorem turn_xor (j q x y : Nat) : turn j q (x ^^^ y) = turn j q x ^^^ turn j q y := by
  unfold turn
  rw [halveN_xor, xor_swap, ap_xor]
theorem turn_halve (j q x : Nat) : turn j q (halve x) = halve (turn j q x) := by
  unfold turn
  have h : halveN j (halve x) = halve (halveN j x) := by
    have h1 := halveN_succ j x
    exact h1
  rw [h, ← halve_xor, ap_halve]
theorem turn_halveN (j q k x : Nat) : turn j q (halveN k x) = halveN k (turn j q x) := by
  induction k generalizing x with
  | zero => rfl
  | succ k ih => rw [halveN, ih, turn_halve]; rfl
theorem bit_of (k : Nat) (hk : k < 32) : halveN (31 - k) 2147483648 = 2 ^ k := by
  have h : ∀ k : Fin 32, halveN (31 - k.val) 2147483648 = 2 ^ k.val := by decide
  exact h ⟨k, hk⟩
theorem add_xor (k r : Nat) (h : r < 2 ^ k) : 2 ^ k + r = 2 ^ k ^^^ r := by
  apply Nat.eq_of_testBit_eq
  intro i
  rw [Nat.testBit_xor]
  rcases Nat.lt_trichotomy i k with hi | hi | hi
  · rw [Nat.testBit_two_pow_add_gt hi, Nat.testBit_two_pow]
    simp [Nat.ne_of_gt hi]
  · subst hi
    rw [Nat.testBit_two_pow_add_eq, Nat.testBit_two_pow_self, Nat.testBit_lt_two_pow h]
    rfl
  · have h1 : (2 ^ k + r).testBit i = false := Nat.testBit_lt_two_pow (by
      have := Nat.pow_le_pow_right (n := 2) (by decide) (show k + 1 ≤ i by omega)
      rw [Nat.pow_succ] at this
      omega)
    have h2 : r.testBit i = false := Nat.testBit_lt_two_pow (Nat.lt_of_lt_of_le h (Nat.pow_le_pow_right (by decide) (by omega)))
    rw [h1, h2, Nat.testBit_two_pow]
    simp [Nat.ne_of_lt hi]
theorem turn_all {j q : Nat} (h : turn j q 2147483648 = 2147483648) : ∀ (k r : Nat), k ≤ 32 → r < 2 ^ k → turn j q r = r
  | 0, r, _, hr => by
    obtain rfl : r = 0 := by omega
    unfold turn
    rw [halveN_zero]
    exact ap_zero _ _
  | k + 1, r, hk, hr => by
    by_cases hlt : r < 2 ^ k
    · exact turn_all h k r (by omega) hlt
    · have hr' : r - 2 ^ k < 2 ^ k := by rw [Nat.pow_succ] at hr; omega
      have e : r = 2 ^ k ^^^ (r - 2 ^ k) := by rw [← add_xor k _ hr']; omega
      rw [e, turn_xor, turn_all h k _ (by omega) hr', ← bit_of k (by omega), turn_halveN, h]
/-- so nothing but 0 is left by so many halvings -/
theorem only_zero {j q r : Nat} (h : turn j q 2147483648 = 2147483648) (hr : r < 4294967296) (hj : halveN j r = r) : r = 0 := by
  have h1 := turn_all h 32 r (by decide) hr
  unfold turn at h1
  rw [hj, Nat.xor_self, ap_zero] at h1
  exact h1.symm

/-- the inverses -/
def inverses : List Nat := [
  3140311070, 690548721, 2788185386, 787596701, 2022499354, 824328717, 1565730423, 2194431077, 2800321482, 1281760478,
  2466777858, 3882102033, 2130045075, 2426001042, 60948984, 4003555840, 2666699487, 3548335438, 323034389, 2542109265,
  1580416992, 1057448970, 1470558877, 1559709651, 3052177875, 3790942293, 1076229863, 4285696950, 450102110, 299725026,
  2403361941, 584514061, 355928664, 4124533229, 3453676134, 79663748, 684146807, 3474326425, 2688802856, 1608279939,
  4049897786, 3256300454, 2430309539, 2185728454, 766972721, 1044037863, 154434615, 3442714768, 47234226, 1094455012,
  1463184996, 3503332744, 3535187780, 2952044248, 3266907774, 1068094657, 1876160137, 1648293324, 2285077219, 938336775,
  551757050, 3091840380, 497920499, 4073219431, 590159947, 210943854, 977925559, 1444339066, 3559798430, 3166100733,
  3406268421, 3852977205, 3239401074, 270352276, 3972303256, 3323291628, 2079769221, 4268894312, 2069897967, 2850987454,
  1610861605, 3731006285, 2877068935, 2913811001, 3431192741, 3961742200, 709026602, 3707066709, 203833421, 2586193937,
  4261448797, 753156053, 1785912705, 3113202519, 2556745425, 2294690527, 3128617527, 3241984411, 1538306796, 422747718,
  2572706382, 3962910774, 3837939505, 943018370, 3810542039, 808690904, 147098006, 194164321, 2114187895, 3339582279,
  1862789841, 2830520765, 3517749527, 644188964, 2724460299, 624737860, 1262210153, 1740926606, 1464622708, 2278121482,
  2002146624, 2064884956, 3703674944, 1659339940, 3671850064, 2321641936, 1696050185, 4034742885, 2987611651, 1195234754,
  2735664641, 2930714280, 1753332878, 2765551272, 786820588, 3989615692, 3483302392, 3426963991, 143132585, 3256146835,
  3702763004, 1291989671, 4258920871, 1225158123, 3469928367, 2885813102, 3999032673, 2004331723, 1843706544, 1813280044,
  1425788197, 2989724881, 3612045609, 3995483869, 649688007, 2054433042, 1000698645, 1986800293, 1883166231, 3840155502,
  1560552039, 3430158044, 2684077826, 2497552602, 1610087215, 1670935423, 846080578, 3136251763, 2097398657, 1248139120,
  3246866964, 2008500161, 741125989, 1525429842, 690261882, 242224653, 854030296, 1636857316, 1259877958, 1661342778,
  2900270494, 2852921785, 2076189063, 1243871522, 4093587748, 1066516417, 499721549, 1835628181, 1024266103, 858069993,
  468417795, 2889792051, 3468687688, 4100500963, 4026095995, 2557745990, 1861975869, 3365359654, 2061698621, 1861456205]
def allGood : List Nat → Nat → Bool
  | [], _ => true
  | q :: qs, v => (ap 32 q (halveN 8 v ^^^ 2147483648) == 2147483648) && allGood qs (halveN 8 v)
theorem inverses_length : inverses.length = 200 := by decide +kernel
theorem allGood_holds : allGood inverses 2147483648 = true := by decide +kernel
theorem allGood_at : ∀ (qs : List Nat) (i m : Nat), allGood qs (halveN (8 * i) 2147483648) = true → m < qs.length → ∃ q, turn (8 * (i + m + 1)) q 2147483648 = 2147483648
  | [], _, _, _, hm => by simp at hm
  | q :: qs, i, m, h, hm => by
    have e : halveN 8 (halveN (8 * i) 2147483648) = halveN (8 * (i + 1)) 2147483648 := by
      rw [← halveN_add]; congr 1; omega
    rw [allGood, Bool.and_eq_true, beq_iff_eq, e] at h
    match m, hm with
    | 0, _ => exact ⟨q, h.1⟩
    | m + 1, hm =>
      obtain ⟨q', hq'⟩ := allGood_at qs (i + 1) m h.2 (by simpa using hm)
      exact ⟨q', by rw [show i + (m + 1) + 1 = i + 1 + m + 1 by omega]; exact hq'⟩
theorem noughts_move {m r : Nat} (h1 : 1 ≤ m) (h2 : m ≤ 200) (hr : r < 4294967296) (h : halveN (8 * m) r = r) : r = 0 := by
  obtain ⟨q, hq⟩ := allGood_at inverses 0 (m - 1) allGood_holds (by have := inverses_length; omega)
  rw [show 0 + (m - 1) + 1 = m by omega] at hq
  exact only_zero hq hr h

/- ## the sum -/
theorem crcReg_zeros (m r : Nat) : crcReg r (List.replicate m 0) = halveN (8 * m) r := by
  induction m generalizing r with
  | zero => show crcReg r [] = halveN 0 r; rfl
  | succ m ih =>
    rw [List.replicate_succ]
    show crcReg (crcStep r (UInt8.toNat 0)) (List.replicate m 0) = _
    rw [ih]
    have e : crcStep r (UInt8.toNat 0) = halveN 8 r := by
      unfold crcStep
      rw [show UInt8.toNat 0 = 0 by rfl, Nat.xor_zero]
    rw [e, ← halveN_add]
    congr 1
theorem crcReg_xor (l : List UInt8) (r s : Nat) : crcReg r l ^^^ crcReg s l = halveN (8 * l.length) (r ^^^ s) := by
  induction l generalizing r s with
  | nil => rfl
  | cons x l ih =>
    show crcReg (crcStep r x.toNat) l ^^^ crcReg (crcStep s x.toNat) l = _
    rw [ih]
    unfold crcStep
    rw [← halveN_xor, xor_swap, Nat.xor_self, Nat.xor_zero, ← halveN_add, List.length_cons]
    congr 1
theorem crcReg_inj {l : List UInt8} {r s : Nat} (hr : r < 4294967296) (hs : s < 4294967296) (h : crcReg r l = crcReg s l) : r = s := by
  have e := crcReg_xor l r s
  rw [h, Nat.xor_self] at e
  exact eq_of_xor_zero (halveN_eq_zero _ (Nat.xor_lt_two_pow (n := 32) (by omega) (by omega)) e.symm)
theorem noughts_ahead (l : List UInt8) {m : Nat} (h1 : 1 ≤ m) (h2 : m ≤ 200) : crc (List.replicate m 0 ++ l) ≠ crc l := by
  unfold crc
  rw [crcReg_append, crcReg_zeros]
  intro h
  have ha := crcReg_lt l (halveN_lt (8 * m) (u := 4294967295) (by decide))
  have hb := crcReg_lt l (r := 4294967295) (by decide)
  have e := crcReg_inj (halveN_lt (8 * m) (u := 4294967295) (by decide)) (by decide) (show crcReg (halveN (8 * m) 4294967295) l = crcReg 4294967295 l by omega)
  have := noughts_move h1 h2 (by decide) e
  omega
theorem noughts_behind (l : List UInt8) {m : Nat} (h1 : 1 ≤ m) (h2 : m ≤ 200) : crc (l ++ List.replicate m 0) = crc l ↔ crc l = 4294967295 := by
  unfold crc
  rw [crcReg_append, crcReg_zeros]
  have hb := crcReg_lt l (r := 4294967295) (by decide)
  have hc := halveN_lt (8 * m) hb
  constructor
  · intro h
    have := noughts_move h1 h2 hb (by omega)
    omega
  · intro h
    have h0 : crcReg 4294967295 l = 0 := by omega
    rw [h0, halveN_zero]
end Go.Proofs.Ytiockkphciadeaa
