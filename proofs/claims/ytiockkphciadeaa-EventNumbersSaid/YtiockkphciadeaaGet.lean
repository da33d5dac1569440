/-
  GetUint, GetInt, Int: what is laid out at a place.
-/
import Derived.Test.YtiockkphciadeaaUint
import Derived.Lib.Hide
namespace Go.Proofs.Ytiockkphciadeaa
open Go.RowKit
open Go.Lib (byteCells byteCells_length byteCells_append uvarint uvarint_small uvarint_big)

theorem int_any (A : Option Addr) (n c : Nat) (x : Int) (l : List UInt8) (w : World) (h : IsB w A n c l) (hn : n ≤ 35184372088832) (h0 : -9223372036854775808 ≤ x) (h1 : x ≤ 9223372036854775807) :
    Calls Try.prog 105 #[.slice A n c, .int .i64 x] w fun e w' =>
      ∃ v, e = .returned v ∧ Own w' w.heap.size 5 v (l ++ uvarint (Lib.zigzag x)) ∧ Below w.heap.size w w' := by
  have hz := Lib.zigzag_lt h0 h1
  go_enter Try.func105, Try.ntmps105
  go_wp2_with fail
  refine (fold_any _ _ h0 h1).mono ?_
  rintro e w' ⟨rfl, rfl⟩
  go_wp2_with fail
  refine (uint_any A n c (Lib.zigzag x) l _ h hn hz).mono ?_
  rintro e w' ⟨v, rfl, ho, hb⟩
  go_wp2_with fail
  go_ret
  exact ⟨_, rfl, ho, hb⟩

/- ## What is laid out at a place, as a plain function -/
def scan : Nat → Nat → Nat → List UInt8 → Nat × Nat × Nat
  | 0, _, _, _ => (0, 0, 10)
  | _ + 1, _, _, [] => (0, 0, 11)
  | f + 1, i, acc, x :: r =>
    if mayB x.toNat i then
      if x.toNat < 128 then (acc + x.toNat % 128 * 2 ^ (7 * i), i + 1, 0) else scan f (i + 1) (acc + x.toNat % 128 * 2 ^ (7 * i)) r
    else (0, 0, 10)
/-- the number, how many bytes it has, the error -/
def getU (l : List UInt8) : Nat × Nat × Nat := scan 10 0 0 l
/-- GetUint's three answers, at a place that there is -/
def nextU (at_ : Nat) (q : Nat × Nat × Nat) : Nat := if q.2.2 = 0 then at_ + q.2.1 else 0
def ansU (at_ : Nat) (q : Nat × Nat × Nat) : Value := .tuple #[.int .u64 (q.1 : Int), .int .i64 (nextU at_ q : Int), .int .i64 (q.2.2 : Int)]
/-- GetInt's -/
def ansI (at_ : Nat) (q : Nat × Nat × Nat) : Value := .tuple #[.int .i64 (Lib.unzigzag q.1), .int .i64 (nextU at_ q : Int), .int .i64 (q.2.2 : Int)]

theorem pow7_le {j : Nat} (h : j < 9) : 2 ^ (7 * j) ≤ 72057594037927936 := by
  have := Nat.pow_le_pow_right (n := 2) (by decide) (show 7 * j ≤ 56 by omega)
  simpa using this
theorem seven_lt {acc j x : Nat} (hacc : acc < 2 ^ (7 * j)) : acc + x % 128 * 2 ^ (7 * j) < 2 ^ (7 * (j + 1)) := by
  have h1 : x % 128 * 2 ^ (7 * j) ≤ 127 * 2 ^ (7 * j) := Nat.mul_le_mul_right _ (by omega)
  rw [show 7 * (j + 1) = 7 * j + 7 by omega, Nat.pow_add]
  omega
theorem seven_or {acc j x : Nat} (hacc : acc < 2 ^ (7 * j)) (hj : j < 10) (hx : x < 256) (hm : mayB x j = true) :
    bits .or .u64 (acc : Int) (IntKind.u64.wrap (IntKind.u64.wrap (bits .andNot .u8 (x : Int) 128) * 2 ^ (7 * j))) = ((acc + x % 128 * 2 ^ (7 * j) : Nat) : Int) := by
  have e1 : bits .andNot .u8 (x : Int) 128 = ((x % 128 : Nat) : Int) := by
    rw [show (128 : Int) = ((128 : Nat) : Int) by rfl, u8_andNot_nat x 128 hx (by omega)]
    exact congrArg _ (nat_mask7 x)
  have hp : x % 128 * 2 ^ (7 * j) < 18446744073709551616 ∧ acc < 18446744073709551616 := by
    by_cases h9 : j < 9
    · have h2 := pow7_le h9
      have h1 : x % 128 * 2 ^ (7 * j) ≤ 127 * 2 ^ (7 * j) := Nat.mul_le_mul_right _ (by omega)
      omega
    · obtain rfl : j = 9 := by omega
      unfold mayB at hm
      by_cases h0 : x = 0
      · subst h0; simp at hm
      · rw [if_neg h0] at hm
        have : x = 1 := by simpa using hm
        subst this
        simp at hacc ⊢
        omega
  rw [e1, IntKind.wrap_u64 ((x % 128 : Nat) : Int), show (((x % 128 : Nat) : Int) % 18446744073709551616) = ((x % 128 : Nat) : Int) by omega]
  rw [show ((x % 128 : Nat) : Int) * 2 ^ (7 * j) = ((x % 128 * 2 ^ (7 * j) : Nat) : Int) by push_cast; rfl]
  rw [IntKind.wrap_u64, show ((x % 128 * 2 ^ (7 * j) : Nat) : Int) % 18446744073709551616 = ((x % 128 * 2 ^ (7 * j) : Nat) : Int) by omega]
  rw [u64_or_nat _ _ hp.2 hp.1, Nat.or_comm, nat_join (7 * j) _ _ (Nat.mul_mod_left _ _) hacc, Nat.add_comm]

theorem drop_cons {l : List UInt8} {k : Nat} {x : UInt8} (h : l[k]? = some x) : l.drop k = x :: l.drop (k + 1) := by
  obtain ⟨hk, e⟩ := List.getElem?_eq_some_iff.1 h
  rw [List.drop_eq_getElem_cons hk, e]
theorem scan_bad {l : List UInt8} {k j acc : Nat} {x : UInt8} (hj : j < 10) (h : l[k + j]? = some x) (hm : mayB x.toNat j = false) : scan (10 - j) j acc (l.drop (k + j)) = (0, 0, 10) := by
  rw [drop_cons h, show 10 - j = (9 - j) + 1 by omega]
  simp [scan, hm]
theorem scan_end {l : List UInt8} {k j acc : Nat} {x : UInt8} (hj : j < 10) (h : l[k + j]? = some x) (hm : mayB x.toNat j = true) (hx : x.toNat < 128) : scan (10 - j) j acc (l.drop (k + j)) = (acc + x.toNat % 128 * 2 ^ (7 * j), j + 1, 0) := by
  rw [drop_cons h, show 10 - j = (9 - j) + 1 by omega]
  simp [scan, hm, hx]
theorem scan_on {l : List UInt8} {k j acc : Nat} {x : UInt8} (hj : j < 10) (h : l[k + j]? = some x) (hm : mayB x.toNat j = true) (hx : ¬ x.toNat < 128) : scan (10 - j) j acc (l.drop (k + j)) = scan (10 - (j + 1)) (j + 1) (acc + x.toNat % 128 * 2 ^ (7 * j)) (l.drop (k + (j + 1))) := by
  rw [drop_cons h, show 10 - j = (9 - j) + 1 by omega, show 10 - (j + 1) = 9 - j by omega]
  simp only [scan, hm, hx, ↓reduceIte]
  rfl
theorem scan_short {l : List UInt8} {j acc k : Nat} (hj : j < 10) (h : l.length ≤ k) : scan (10 - j) j acc (l.drop k) = (0, 0, 11) := by
  rw [List.drop_of_length_le h, show 10 - j = (9 - j) + 1 by omega]
  rfl

set_option maxRecDepth 100000 in
set_option maxHeartbeats 400000 in
theorem getUint_any (A : Option Addr) (n c k : Nat) (l : List UInt8) (w : World) (h : IsB w A n c l) (hn : n ≤ 35184372088832) (hk : k ≤ n) :
    Calls Try.prog 79 #[.slice A n c, .int .i64 (k : Int)] w fun e w' =>
      e = .returned (ansU k (getU (l.drop k))) ∧ w = w' := by
  obtain ⟨hl, hcap, hnone, hsrc⟩ := h
  have t1 : ((k : Int) < 0) = False := by simp
  have t2 : ((n : Int) < (k : Int)) = False := by simp; omega
  go_enter Try.func79, Try.ntmps79
  go_wp2_with fail
  go_loop [7, 18] (fun a i => ∃ j acc : Nat, i = .int .i64 (j : Int) ∧ a = .int .u64 (acc : Int) ∧ j ≤ 10 ∧ k + j ≤ n ∧ acc < 2 ^ (7 * j) ∧ Hid (ansU k (getU (l.drop k)) = ansU k (scan (10 - j) j acc (l.drop (k + j)))))
    (fun _ i => 10 - (intOf i).toNat)
  case atStart => exact ⟨0, 0, rfl, rfl, by omega, by omega, by decide, rfl⟩
  case round =>
    obtain ⟨j, acc, rfl, rfl, hj, hkj, hacc, hS⟩ := hrel
    clear t1 t2
    have HA := Lib.hid hacc
    clear hacc
    by_cases hj10 : j < 10
    · by_cases hend : k + j < n
      · have HX : Hid (l[k + j]? = some (l[k + j]'(by omega))) := List.getElem?_eq_getElem _
        generalize l[k + j]'(by omega) = x at HX
        obtain ⟨b, o, rfl, hc⟩ : ∃ b o, A = some ⟨b, o, none⟩ ∧ w.cell? ⟨b, o + (k + j), none⟩ = some (.int .u8 (x.toNat : Int)) := by
          rcases hsrc with rfl | ⟨b, o, hA, hc⟩
          · simp at hl; omega
          · exact ⟨b, o, hA, hc _ _ HX.out⟩
        have hx := x.toNat_lt
        have hxb : x.toNat < 256 := hx
        clear hx
        cases hm : mayB x.toNat j with
        | false =>
          have HM := Lib.hid hm
          clear hm
          go_wp2_with (go_at_call 107; refine (mayStand_any x.toNat j _ hxb hj10).mono ?_; rintro e w' ⟨rfl, rfl⟩; rw [HM.out])
          refine bodyPost_ret (v := ansU k (0, 0, 10)) (by simp [results, Try.results79, go_sem, ansU, nextU]) rfl ⟨?_, rfl⟩
          rw [hS.out, scan_bad hj10 HX.out HM.out]
        | true =>
          have HM := Lib.hid hm
          clear hm
          have hq := seven_or HA.out hj10 hxb HM.out
          have hq2 := seven_lt (x := x.toNat) HA.out
          generalize hgen : acc + x.toNat % 128 * 2 ^ (7 * j) = acc' at hq hq2
          have HG := Lib.hid hgen
          have HQ := Lib.hid hq
          have HQ2 := Lib.hid hq2
          clear hgen hq hq2
          by_cases hlow : x.toNat < 128
          · go_wp2_with (go_at_call 107; refine (mayStand_any x.toNat j _ hxb hj10).mono ?_; rintro e w' ⟨rfl, rfl⟩; rw [HM.out])
            refine bodyPost_ret (v := ansU k (acc', j + 1, 0)) (by simp [results, Try.results79, go_sem, ansU, nextU, HQ.out]; omega) rfl ⟨?_, rfl⟩
            rw [hS.out, scan_end hj10 HX.out HM.out hlow, HG.out]
          · go_wp2_with (go_at_call 107; refine (mayStand_any x.toNat j _ hxb hj10).mono ?_; rintro e w' ⟨rfl, rfl⟩; rw [HM.out])
            refine ⟨⟨j + 1, acc', by go_num, by rw [HQ.out], by omega, by omega, HQ2.out, ?_⟩, by simp [intOf]; omega⟩
            unfold Hid
            rw [hS.out, scan_on hj10 HX.out HM.out hlow, HG.out]
      · obtain rfl : n = k + j := by omega
        go_wp2
        refine bodyPost_ret (v := ansU k (0, 0, 11)) (by simp [results, Try.results79, go_sem, ansU, nextU]) rfl ⟨?_, rfl⟩
        rw [hS.out, scan_short hj10 (by omega)]
    · obtain rfl : j = 10 := by omega
      go_wp2
      refine bodyPost_ret (v := ansU k (0, 0, 10)) (by simp [results, Try.results79, go_sem, ansU, nextU]) rfl ⟨?_, rfl⟩
      rw [hS.out]
      rfl

/-- at a place that there is not -/
theorem getUint_out (A : Option Addr) (n c : Nat) (k : Int) (w : World) (hk : k < 0 ∨ (n : Int) < k) :
    Calls Try.prog 79 #[.slice A n c, .int .i64 k] w fun e w' => e = .returned (ansU 0 (0, 0, 2)) ∧ w = w' := by
  by_cases h0 : k < 0
  · clear hk
    go_enter Try.func79, Try.ntmps79
    go_wp2
    refine bodyPost_ret (v := ansU 0 (0, 0, 2)) (by simp [results, Try.results79, go_sem, ansU, nextU]) rfl ⟨rfl, rfl⟩
  · have h1 : (n : Int) < k := by omega
    clear hk
    go_enter Try.func79, Try.ntmps79
    go_wp2
    refine bodyPost_ret (v := ansU 0 (0, 0, 2)) (by simp [results, Try.results79, go_sem, ansU, nextU]) rfl ⟨rfl, rfl⟩

theorem scan_lt : ∀ (f j acc : Nat) (l : List UInt8), f + j = 10 → acc < 2 ^ (7 * j) → (scan f j acc l).1 < 18446744073709551616
  | 0, _, _, _, _, _ => by simp [scan]
  | f + 1, j, acc, [], _, _ => by simp [scan]
  | f + 1, j, acc, x :: r, hf, hacc => by
    rw [scan]
    cases hm : mayB x.toNat j with
    | false => simp
    | true =>
      rw [if_pos rfl]
      by_cases hx : x.toNat < 128
      · rw [if_pos hx]
        show acc + x.toNat % 128 * 2 ^ (7 * j) < _
        have h3 := seven_lt (x := x.toNat) hacc
        by_cases h9 : j < 9
        · have h4 := Nat.pow_le_pow_right (n := 2) (by decide) (show 7 * (j + 1) ≤ 63 by omega)
          have : (2 : Nat) ^ 63 = 9223372036854775808 := by decide
          omega
        · obtain rfl : j = 9 := by omega
          unfold mayB at hm
          by_cases h0 : x.toNat = 0
          · rw [h0] at hm; simp at hm
          · rw [if_neg h0] at hm
            have h1 : x.toNat = 1 := by simpa using hm
            rw [h1]
            simp at hacc ⊢
            omega
      · rw [if_neg hx]
        exact scan_lt f (j + 1) _ r (by omega) (seven_lt hacc)
theorem getU_lt (l : List UInt8) : (getU l).1 < 18446744073709551616 := scan_lt 10 0 0 l rfl (by decide)
theorem scan_bits : ∀ (f j acc : Nat) (l : List UInt8), (scan f j acc l).2.2 = 0 ∨ ((scan f j acc l).1 = 0 ∧ (scan f j acc l).2.1 = 0)
  | 0, _, _, _ => .inr ⟨rfl, rfl⟩
  | f + 1, j, acc, [] => .inr ⟨rfl, rfl⟩
  | f + 1, j, acc, x :: r => by
    rw [scan]
    split
    · split
      · exact .inl rfl
      · exact scan_bits f _ _ r
    · exact .inr ⟨rfl, rfl⟩

theorem getInt_of {A : Option Addr} {n c : Nat} {k : Int} {at_ : Nat} {q : Nat × Nat × Nat} {w : World} (hq : q.1 < 18446744073709551616)
    (h : Calls Try.prog 79 #[.slice A n c, .int .i64 k] w fun e w' => e = .returned (ansU at_ q) ∧ w = w') :
    Calls Try.prog 74 #[.slice A n c, .int .i64 k] w fun e w' => e = .returned (ansI at_ q) ∧ w = w' := by
  have H := Lib.hid h
  clear h
  unfold ansI
  unfold ansU at H
  generalize nextU at_ q = x at H
  obtain ⟨a, b, e⟩ := q
  dsimp only at H hq ⊢
  go_enter Try.func74, Try.ntmps74
  go_wp2_with (first
    | (go_at_call 79; refine H.out.mono ?_; rintro e w' ⟨rfl, rfl⟩)
    | (go_at_call 106; refine (unfold_any a _ hq).mono ?_; rintro e w' ⟨rfl, rfl⟩))
  go_ret3
  exact ⟨rfl, rfl⟩
theorem getInt_any (A : Option Addr) (n c k : Nat) (l : List UInt8) (w : World) (h : IsB w A n c l) (hn : n ≤ 35184372088832) (hk : k ≤ n) :
    Calls Try.prog 74 #[.slice A n c, .int .i64 (k : Int)] w fun e w' => e = .returned (ansI k (getU (l.drop k))) ∧ w = w' :=
  getInt_of (getU_lt _) (getUint_any A n c k l w h hn hk)
theorem getInt_out (A : Option Addr) (n c : Nat) (k : Int) (w : World) (hk : k < 0 ∨ (n : Int) < k) :
    Calls Try.prog 74 #[.slice A n c, .int .i64 k] w fun e w' => e = .returned (ansI 0 (0, 0, 2)) ∧ w = w' :=
  getInt_of (by decide) (getUint_out A n c k w hk)

/- ## What is laid out is had back -/
theorem byte_toNat {a : Nat} (h : a < 256) : (a.toUInt8).toNat = a := by simp [Nat.toUInt8, UInt8.toNat_ofNat']; omega
theorem scan_uvarint : ∀ (f j x acc : Nat) (r : List UInt8), f + j = 10 → 0 < f → (j = 0 ∨ 0 < x) → x * 2 ^ (7 * j) < 18446744073709551616 →
    scan f j acc (uvarint x ++ r) = (acc + x * 2 ^ (7 * j), j + (uvarint x).length, 0)
  | 0, _, _, _, _, _, h, _, _ => by omega
  | f + 1, j, x, acc, r, hf, _, hx0, hx => by
    have h9 : j = 9 → x < 2 := by
      rintro rfl
      rw [show 2 ^ (7 * 9) = 9223372036854775808 by decide] at hx
      omega
    by_cases hs : x < 128
    · rw [uvarint_small hs]
      have hb : (x.toUInt8).toNat = x := byte_toNat (by omega)
      have hm : mayB x j = true := by
        unfold mayB
        by_cases h0 : x = 0
        · rw [if_pos h0]; simp; omega
        · rw [if_neg h0]
          by_cases hj : j < 9
          · simp [hj]
          · have := h9 (by omega)
            have : x = 1 := by omega
            simp [this]
      rw [List.singleton_append, scan, hb, if_pos hm, if_pos hs, Nat.mod_eq_of_lt hs]
      rfl
    · rw [uvarint_big (by omega)]
      have hb : ((x % 128 + 128).toUInt8).toNat = x % 128 + 128 := byte_toNat (by omega)
      have hj : j < 9 := by
        by_cases hj : j < 9
        · exact hj
        · have := h9 (by omega); omega
      have hm : mayB (x % 128 + 128) j = true := by
        unfold mayB
        rw [if_neg (by omega)]
        simp [hj]
      have hp : 2 ^ (7 * (j + 1)) = 128 * 2 ^ (7 * j) := by
        rw [show 7 * (j + 1) = 7 + 7 * j by omega, Nat.pow_add]
      have hr : x / 128 * 2 ^ (7 * (j + 1)) + x % 128 * 2 ^ (7 * j) = x * 2 ^ (7 * j) := by
        rw [hp, ← Nat.mul_assoc, ← Nat.add_mul]
        congr 1
        omega
      rw [List.cons_append, scan, hb, if_pos hm, if_neg (by omega), scan_uvarint f (j + 1) (x / 128) _ r (by omega) (by omega) (.inr (by omega)) (by omega)]
      rw [show (x % 128 + 128) % 128 = x % 128 by omega, List.length_cons]
      refine Prod.ext ?_ (Prod.ext ?_ rfl)
      · show _ = acc + x * 2 ^ (7 * j)
        dsimp only
        omega
      · show _ = j + ((uvarint (x / 128)).length + 1)
        dsimp only
        omega
theorem getU_uvarint {x : Nat} (r : List UInt8) (hx : x < 18446744073709551616) : getU (uvarint x ++ r) = (x, (uvarint x).length, 0) := by
  have h := scan_uvarint 10 0 x 0 r rfl (by decide) (.inl rfl) (by simpa using hx)
  simpa [getU] using h
theorem getU_uvarint' {x : Nat} (hx : x < 18446744073709551616) : getU (uvarint x) = (x, (uvarint x).length, 0) := by
  have h := getU_uvarint [] hx
  rwa [List.append_nil] at h
/-- whoever reads on within a number -/
theorem drop_uvarint : ∀ (k x : Nat), k < (uvarint x).length → (uvarint x).drop k = uvarint (x / 128 ^ k)
  | 0, x, _ => by simp
  | k + 1, x, h => by
    by_cases hs : x < 128
    · rw [uvarint_small hs] at h
      simp at h
    · rw [uvarint_big (by omega)] at h ⊢
      rw [List.drop_succ_cons, drop_uvarint k (x / 128) (by simpa using h), Nat.div_div_eq_div_mul, Nat.pow_succ, Nat.mul_comm]
theorem getU_nil : getU [] = (0, 0, 11) := rfl
theorem uvarint_inj {x y : Nat} (hx : x < 18446744073709551616) (hy : y < 18446744073709551616) (h : uvarint x = uvarint y) : x = y := by
  have h1 := getU_uvarint' hx
  rw [h, getU_uvarint' hy] at h1
  exact (Prod.mk.inj h1).1.symm
end Go.Proofs.Ytiockkphciadeaa
