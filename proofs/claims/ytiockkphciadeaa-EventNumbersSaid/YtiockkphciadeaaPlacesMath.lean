/-
  The sum sees neighbours that change places, a byte that is another one, and a sum that is another one.
-/
import Derived.Test.YtiockkphciadeaaNoughtsMath
import Derived.Test.YtiockkphciadeaaUnseal
namespace Go.Proofs.Ytiockkphciadeaa

theorem crcReg_cons (r : Nat) (x : UInt8) (l : List UInt8) : crcReg r (x :: l) = crcReg (crcStep r x.toNat) l := rfl
theorem crc_inj {l m : List UInt8} (h : crc l = crc m) : crcReg 4294967295 l = crcReg 4294967295 m := by
  unfold crc at h
  have ha := crcReg_lt l (r := 4294967295) (by decide)
  have hb := crcReg_lt m (r := 4294967295) (by decide)
  omega
theorem crcStep_inj {r x y : Nat} (hx : x < 256) (hy : y < 256) (h : crcStep r x = crcStep r y) : x = y := by
  unfold crcStep at h
  have e : halveN 8 ((r ^^^ x) ^^^ (r ^^^ y)) = 0 := by rw [halveN_xor, h, Nat.xor_self]
  rw [xor_swap, Nat.xor_self, Nat.zero_xor] at e
  exact eq_of_xor_zero (halveN_eq_zero 8 (Nat.xor_lt_two_pow (n := 32) (by omega) (by omega)) e)
/-- another byte, another sum -/
theorem crc_turned {p q : List UInt8} {x y : UInt8} (h : crc (p ++ x :: q) = crc (p ++ y :: q)) : x = y := by
  have h1 := crc_inj h
  rw [crcReg_append, crcReg_append, crcReg_cons, crcReg_cons] at h1
  have hr := crcReg_lt p (r := 4294967295) (by decide)
  have h2 := crcReg_inj (crcStep_lt hr x.toNat_lt) (crcStep_lt hr y.toNat_lt) h1
  exact UInt8.toNat_inj.1 (crcStep_inj x.toNat_lt y.toNat_lt h2)
/-- two neighbours that change places -/
theorem crc_swapped {p q : List UInt8} {x y : UInt8} (h : crc (p ++ x :: y :: q) = crc (p ++ y :: x :: q)) : x = y := by
  have h1 := crc_inj h
  rw [crcReg_append, crcReg_append, crcReg_cons, crcReg_cons, crcReg_cons, crcReg_cons] at h1
  have hr := crcReg_lt p (r := 4294967295) (by decide)
  generalize crcReg 4294967295 p = r at hr h1
  have hx := x.toNat_lt
  have hy := y.toNat_lt
  have h2 := crcReg_inj (crcStep_lt (crcStep_lt hr hx) hy) (crcStep_lt (crcStep_lt hr hy) hx) h1
  unfold crcStep at h2
  have e : halveN 8 ((halveN 8 (r ^^^ x.toNat) ^^^ y.toNat) ^^^ (halveN 8 (r ^^^ y.toNat) ^^^ x.toNat)) = 0 := by rw [halveN_xor, h2, Nat.xor_self]
  have hd : x.toNat ^^^ y.toNat < 256 := Nat.xor_lt_two_pow (n := 8) hx hy
  rw [xor_swap, ← halveN_xor, xor_swap r, Nat.xor_self, Nat.zero_xor] at e
  have hlt : halveN 8 (x.toNat ^^^ y.toNat) ^^^ (y.toNat ^^^ x.toNat) < 4294967296 :=
    Nat.xor_lt_two_pow (n := 32) (halveN_lt 8 (by omega)) (by rw [Nat.xor_comm]; omega)
  have e2 := eq_of_xor_zero (halveN_eq_zero 8 hlt e)
  rw [Nat.xor_comm y.toNat] at e2
  have e3 := noughts_move (m := 1) (by decide) (by decide) (show x.toNat ^^^ y.toNat < 4294967296 by omega) e2
  exact UInt8.toNat_inj.1 (eq_of_xor_zero e3)
theorem sumBytes_inj {s t : Nat} (hs : s < 4294967296) (ht : t < 4294967296) (h : sumBytes s = sumBytes t) : s = t := by
  unfold sumBytes at h
  have e : ∀ {a b : Nat}, a < 256 → b < 256 → a.toUInt8 = b.toUInt8 → a = b := fun ha hb h => by
    rw [← byte_toNat ha, h, byte_toNat hb]
  injection h with h0 h
  injection h with h1 h
  injection h with h2 h
  injection h with h3 h
  have g0 := e (by omega) (by omega) h0
  have g1 := e (by omega) (by omega) h1
  have g2 := e (by omega) (by omega) h2
  have g3 := e (by omega) (by omega) h3
  omega
/-- bytes with another body of the same length before the same sum -/
theorem body_other {l m : List UInt8} (hlen : m.length = l.length) (hne : crc m ≠ crc l) : ∀ body, m ++ sumBytes (crc l) ≠ sealed body := by
  intro body h
  unfold sealed at h
  have hl := congrArg List.length h
  rw [List.length_append, List.length_append, sumBytes_length, sumBytes_length] at hl
  have hh := List.append_inj h (by omega)
  rw [← hh.1] at hh
  exact hne (sumBytes_inj (crc_lt _) (crc_lt _) hh.2).symm
/-- bytes with another sum -/
theorem sum_other {l t : List UInt8} (hlen : t.length = 4) (hne : t ≠ sumBytes (crc l)) : ∀ body, l ++ t ≠ sealed body := by
  intro body h
  unfold sealed at h
  have hl := congrArg List.length h
  rw [List.length_append, List.length_append, sumBytes_length] at hl
  have hh := List.append_inj h (by omega)
  rw [← hh.1] at hh
  exact hne hh.2
/-- either what was sealed, or not sealed at all -/
def Fair (l x : List UInt8) : Prop := x.length = l.length + 4 ∧ (x = sealed l ∨ ((∀ body, x ≠ sealed body) ∧ x ≠ sealed l))
theorem fair_same (l : List UInt8) : Fair l (sealed l) := ⟨by unfold sealed; rw [List.length_append, sumBytes_length], .inl rfl⟩
theorem fair_body {l m : List UInt8} (hlen : m.length = l.length) (h : m = l ∨ crc m ≠ crc l) : Fair l (m ++ sumBytes (crc l)) := by
  rcases h with rfl | h
  · exact fair_same m
  · exact ⟨by rw [List.length_append, sumBytes_length, hlen], .inr ⟨body_other hlen h, body_other hlen h l⟩⟩
theorem fair_sum {l t : List UInt8} (hlen : t.length = 4) : Fair l (l ++ t) := by
  by_cases h : t = sumBytes (crc l)
  · subst h; exact fair_same l
  · exact ⟨by rw [List.length_append, hlen], .inr ⟨sum_other hlen h, sum_other hlen h l⟩⟩
theorem split_at {l : List UInt8} {k : Nat} (h : k < l.length) : l = l.take k ++ l[k] :: l.drop (k + 1) := by
  rw [← List.drop_eq_getElem_cons h, List.take_append_drop]
theorem set_split {l : List UInt8} {k : Nat} (h : k < l.length) (u : UInt8) : l.set k u = l.take k ++ u :: l.drop (k + 1) := by
  rw [List.set_eq_take_append_cons_drop, if_pos h]
/-- one byte of the body that is another one -/
theorem fair_turned {l : List UInt8} {k : Nat} (hk : k < l.length) (u : UInt8) : Fair l ((sealed l).set k u) := by
  unfold sealed
  rw [List.set_append_left _ _ hk]
  refine fair_body (by rw [List.length_set]) ?_
  by_cases hu : u = l[k]
  · exact .inl (by rw [hu, List.set_getElem_self])
  · refine .inr fun h => hu ?_
    rw [set_split hk] at h
    conv at h => rhs; rw [split_at hk]
    exact crc_turned h
/-- two neighbours of the body that change places -/
theorem fair_swapped {l : List UInt8} {k : Nat} (hk : k + 1 < l.length) : Fair l (((sealed l).set k l[k + 1]).set (k + 1) l[k]) := by
  unfold sealed
  rw [List.set_append_left _ _ (by omega), List.set_append_left _ _ (by rw [List.length_set]; omega)]
  refine fair_body (by rw [List.length_set, List.length_set]) ?_
  have e : (l.set k l[k + 1]).set (k + 1) l[k] = l.take k ++ l[k + 1] :: l[k] :: l.drop (k + 2) := by
    have hP : (l.take k).length = k := by rw [List.length_take]; omega
    generalize l[k + 1] = b
    generalize l[k] = a
    rw [set_split (show k < l.length by omega) b, List.set_append_right _ _ (by omega), hP, show k + 1 - k = 1 by omega, List.drop_eq_getElem_cons hk]
    rfl
  have e2 : l = l.take k ++ l[k] :: l[k + 1] :: l.drop (k + 2) := by
    conv => lhs; rw [split_at (show k < l.length by omega), List.drop_eq_getElem_cons hk]
  rw [e]
  by_cases hu : l[k] = l[k + 1]
  · refine .inl ?_
    conv => rhs; rw [e2]
    rw [hu]
  · refine .inr fun h => hu ?_
    conv at h => rhs; rw [e2]
    exact (crc_swapped h).symm
end Go.Proofs.Ytiockkphciadeaa
