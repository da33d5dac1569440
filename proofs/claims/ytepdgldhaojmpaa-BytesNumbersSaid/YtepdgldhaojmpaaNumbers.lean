/-
  BytesNumbers: the chapter's fixed examples come out as written: the law returns true. No condition (it has no argument).
-/
import Derived.Test.YtepdgldhaojmpaaGetBlob
set_option linter.unusedSimpArgs false
namespace Go.Proofs.Ytepdgldhaojmpaa.bytesNumbers
open Go.ChangeShapes Go.WideShapes Go.ChangeAt Go.RowKit
open Go.Lib (uvarint uvarint_small uvarint_big byteCells)
set_option linter.unusedVariables false

/- ## The least and the greatest numbers of each length -/
def leastN (j : Nat) : Nat := if j = 1 then 0 else 128 ^ (j - 1)
def mostN (j : Nat) : Nat := if j = 10 then 18446744073709551615 else 128 ^ j - 1
theorem uvarint_len : ∀ (k n : Nat), (k = 0 ∨ 128 ^ k ≤ n) → n < 128 ^ (k + 1) → (uvarint n).length = k + 1
  | 0, n, _, h => by rw [uvarint_small (by simpa using h)]; rfl
  | k + 1, n, h, h2 => by
    have h1 : 128 ^ (k + 1) ≤ n := by
      rcases h with h | h
      · omega
      · exact h
    have hp : 1 ≤ 128 ^ k := Nat.pow_pos (by decide)
    rw [Nat.pow_succ] at h1 h2
    rw [uvarint_big (by omega), List.length_cons, uvarint_len k (n / 128) (.inr (by omega)) (by omega)]
theorem least_facts (j : Nat) (h1 : 1 ≤ j) (h2 : j ≤ 10) : (uvarint (leastN j)).length = j ∧ leastN j < 18446744073709551616 := by
  obtain ⟨k, rfl⟩ : ∃ k, j = k + 1 := ⟨j - 1, by omega⟩
  unfold leastN
  by_cases hk : k = 0
  · subst hk
    rw [if_pos rfl, uvarint_small (by decide)]
    exact ⟨rfl, by decide⟩
  · rw [if_neg (by omega), Nat.add_sub_cancel]
    have hp : 128 ^ k ≤ 128 ^ 9 := Nat.pow_le_pow_right (by decide) (by omega)
    have h0 : 1 ≤ 128 ^ k := Nat.pow_pos (by decide)
    refine ⟨uvarint_len k _ (.inr (Nat.le_refl _)) (by rw [Nat.pow_succ]; omega), ?_⟩
    have : (128 : Nat) ^ 9 = 9223372036854775808 := by decide
    omega
theorem most_facts (j : Nat) (h1 : 1 ≤ j) (h2 : j ≤ 10) : (uvarint (mostN j)).length = j ∧ mostN j < 18446744073709551616 := by
  obtain ⟨k, rfl⟩ : ∃ k, j = k + 1 := ⟨j - 1, by omega⟩
  unfold mostN
  by_cases hk : k = 9
  · subst hk
    rw [if_pos rfl]
    exact ⟨uvarint_len 9 _ (.inr (by decide)) (by decide), by decide⟩
  · rw [if_neg (by omega)]
    have hp : 128 ^ k ≤ 128 ^ 8 := Nat.pow_le_pow_right (by decide) (by omega)
    have h0 : 1 ≤ 128 ^ k := Nat.pow_pos (by decide)
    have : (128 : Nat) ^ 8 = 72057594037927936 := by decide
    rw [Nat.pow_succ]
    refine ⟨uvarint_len k _ ?_ (by rw [Nat.pow_succ]; omega), by omega⟩
    rcases Nat.eq_zero_or_pos k with h | h
    · exact .inl h
    · exact .inr (by omega)
theorem most_next (j : Nat) (h1 : 1 ≤ j) (h2 : j ≤ 8) : mostN j * 128 + 127 = mostN (j + 1) := by
  unfold mostN
  rw [if_neg (by omega), if_neg (by omega), Nat.pow_succ]
  have h0 : 1 ≤ 128 ^ j := Nat.pow_pos (by decide)
  omega
theorem least_next (j : Nat) (h1 : 1 ≤ j) (h2 : j ≤ 9) : mostN j + 1 = leastN (j + 1) := by
  unfold mostN leastN
  rw [if_neg (by omega), if_neg (by omega), Nat.add_sub_cancel]
  have h0 : 1 ≤ 128 ^ j := Nat.pow_pos (by decide)
  omega

theorem uint_len (x j : Nat) (w : World) (hx : x < 18446744073709551616) (hj : (uvarint x).length = j) :
    Calls Try.prog 10 #[.slice none 0 0, .int .u64 (x : Int)] w fun e w' =>
      ∃ A c, e = .returned (.slice A j c) ∧ IsB w' A j c (uvarint x) ∧ Below w.heap.size w w' :=
  (uint_nil x w hx).mono fun e w' h => by
    obtain ⟨A, m, c, he, hi, _, hb⟩ := h
    obtain rfl : m = j := hi.len.symm.trans hj
    exact ⟨A, c, he, hi, hb⟩

/- ## Nine bytes that go on, and some behind them -/
theorem own_lit (w : World) (e : TypeId) (l : List UInt8) (n : Nat) (cs : Array Value) (hnm : n ≤ 1000) (h : cs = (byteCells l).toArray) (hn : l.length = n) :
    Own (w.alloc (.cells cs e)) w.heap.size e (.slice (some ⟨w.heap.size, 0, none⟩) n n) l := by
  unfold Own
  subst hn
  refine ⟨by rw [Lib.byteCells_length, Nat.mul_one], .inr ⟨w.heap.size, l.length, cs, rfl, Nat.le_refl _, heap_alloc_new w _, Nat.le_refl _, ?_, ?_, ?_⟩⟩
  · unfold maxLen; omega
  · rw [h, List.size_toArray, Lib.byteCells_length, Nat.mul_one]
  · rw [h, Nat.mul_one]
    exact List.take_of_length_le (by rw [Lib.byteCells_length]; exact Nat.le_refl _)
theorem ten_any (A : Option Addr) (m c : Nat) (l : List UInt8) (w : World) (h : IsB w A m c l) (hm : m ≤ 100) :
    Calls Try.prog 12 #[.slice A m c] w fun e w' =>
      ∃ A' m' c', e = .returned (.slice A' m' c') ∧ IsB w' A' m' c' ([128, 128, 128, 128, 128, 128, 128, 128, 128] ++ l) ∧ m' ≤ 1000 ∧ Below w.heap.size w w' := by
  obtain ⟨i0, hi, hz0, hz1, hz2⟩ := info_parts infoByte
  have hl := h.len
  go_enter Try.func12, Try.ntmps12
  go_wp2_with (at_builtin; refine wpList_putAny _ rfl _ _ 24 rfl 5 i0 Try.underlying24 hi hz0 hz1 hz2 w.heap.size _ [128, 128, 128, 128, 128, 128, 128, 128, 128] rfl (own_lit w 5 _ 9 _ (by decide) rfl rfl) A m c l rfl (h.alloc _) (by simp; omega) (by simp) ?_; rintro v1 w1 ho1 hb1)
  go_ret
  obtain ⟨A', m', c', rfl, hi'⟩ := own_slice ho1
  exact ⟨A', m', c', rfl, hi', by have := hi'.len; rw [List.length_append] at this; simp at this; omega, ((Below.refl _ _).alloc (Nat.le_refl _) _).trans hb1⟩
theorem ten_lit (l : List UInt8) (m : Nat) (cs : Array Value) (w : World) (t : TypeId) (fr : Nat × Nat) (hcs : cs = (byteCells l).toArray) (hl : l.length = m) (hm : m ≤ 100) :
    Calls Try.prog 12 #[.slice (some ⟨w.heap.size, 0, none⟩) m m] (w.alloc (.cells cs t fr)) fun e w' =>
      ∃ A' m' c', e = .returned (.slice A' m' c') ∧ IsB w' A' m' c' ([128, 128, 128, 128, 128, 128, 128, 128, 128] ++ l) ∧ m' ≤ 1000 ∧ Below (w.alloc (.cells cs t fr)).heap.size (w.alloc (.cells cs t fr)) w' :=
  ten_any _ m m l _ (new_is w t fr l m cs hcs hl) hm
theorem errorAt0 (A : Option Addr) (m c : Nat) (l : List UInt8) (q : Nat) (x : Int) (w : World) (hx : x = (q : Int)) (hq : getU l = (0, 0, q)) (h : IsB w A m c l) (hm : m ≤ 1000) :
    Calls Try.prog 13 #[.slice A m c, .int .i64 0] w fun e w' => e = .returned (.int .i64 x) ∧ w = w' := by
  subst hx
  exact errorAt_in A m c 0 q l w h (by omega) (by omega) (by rw [List.drop_zero]; exact hq)
theorem errorAt_one (cs : Array Value) (w : World) (t : TypeId) (hcs : cs = #[.int .u8 1]) :
    Calls Try.prog 13 #[.slice (some ⟨w.heap.size, 0, none⟩) 1 1, .int .i64 1] (w.alloc (.cells cs t)) fun e w' => e = .returned (.int .i64 11) ∧ Below (w.alloc (.cells cs t)).heap.size (w.alloc (.cells cs t)) w' := by
  refine (errorAt_in _ 1 1 1 11 [1] _ (new_is w t (0, 0) [1] 1 cs hcs rfl) (by decide) (by decide) (by decide)).mono ?_
  rintro e w' ⟨rfl, rfl⟩
  exact ⟨rfl, Below.refl _ _⟩
theorem errorAt_far (cs : Array Value) (k : Int) (w : World) (t : TypeId) (hk : k < 0 ∨ 1 < k) :
    Calls Try.prog 13 #[.slice (some ⟨w.heap.size, 0, none⟩) 1 1, .int .i64 k] (w.alloc (.cells cs t)) fun e w' => e = .returned (.int .i64 2) ∧ Below (w.alloc (.cells cs t)).heap.size (w.alloc (.cells cs t)) w' := by
  refine (errorAt_out _ 1 1 k _ (by simpa using hk)).mono ?_
  rintro e w' ⟨rfl, rfl⟩
  exact ⟨rfl, Below.refl _ _⟩

/- ## Sums, strings, seals of bytes that were just laid -/
theorem crc_nil (w : World) : Calls Try.prog 15 #[.slice none 0 0] w fun e w' => e = .returned (.int .u32 0) ∧ Below w.heap.size w w' :=
  (crc_any none 0 0 [] w (IsB.nil w) (by decide)).mono fun e w' h => by
    obtain ⟨he, hb⟩ := h
    exact ⟨he, hb⟩
theorem crc_lit0 (l : List UInt8) (m q : Nat) (x : Int) (cs : Array Value) (w : World) (t : TypeId) (fr : Nat × Nat) (hx : x = (q : Int)) (hq : crc l = q) (hcs : cs = (byteCells l).toArray) (hm : l.length = m) (hb : m ≤ 100) :
    Calls Try.prog 15 #[.slice (some ⟨w.heap.size, 0, none⟩) m m] (w.alloc (.cells cs t fr)) fun e w' => e = .returned (.int .u32 x) ∧ Below (w.alloc (.cells cs t fr)).heap.size (w.alloc (.cells cs t fr)) w' := by
  subst hx
  refine (crc_any _ m m l _ (new_is w t fr l m cs hcs hm) (by omega)).mono ?_
  rintro e w' ⟨rfl, hb⟩
  exact ⟨by rw [hq], hb⟩
theorem blob_get (l : List UInt8) (m : Nat) (most : Int) (b : List UInt8) (en er : Nat) (x y : Int) (cs : Array Value) (w : World) (t : TypeId) (hx : x = (en : Int)) (hy : y = (er : Int))
    (hm0 : -9223372036854775808 ≤ most) (hm1 : most ≤ 9223372036854775807) (hq : blobOf l 0 most = (b, en, er)) (hcs : cs = (byteCells l).toArray) (hm : l.length = m) (hb : m ≤ 100) :
    Calls Try.prog 16 #[.slice (some ⟨w.heap.size, 0, none⟩) m m, .int .i64 0, .int .i64 most] (w.alloc (.cells cs t)) fun e w' =>
      ∃ A n c, e = .returned (.tuple #[.slice A n c, .int .i64 x, .int .i64 y]) ∧ IsB w' A n c b ∧ Below (w.alloc (.cells cs t)).heap.size (w.alloc (.cells cs t)) w' := by
  subst hx
  subst hy
  refine (getBlob_any _ m m 0 most l _ (new_is w t (0, 0) l m cs hcs hm) (by omega) hm0 hm1 (by omega)).mono ?_
  rintro e w' ⟨⟨v, he, ho⟩, hb⟩
  rw [hq] at he ho
  obtain ⟨A, n, c, rfl, hi⟩ := own_slice ho
  exact ⟨A, n, c, he, hi, hb⟩
theorem no_short {l : List UInt8} (h : l.length < 4) : ∀ body, l ≠ sealed body := by
  rintro body rfl
  unfold sealed at h
  rw [List.length_append, sumBytes_length] at h
  omega
theorem no_0001 : ∀ body, ([0, 0, 0, 1] : List UInt8) ≠ sealed body := by
  intro body h
  have hl := congrArg List.length h
  unfold sealed at hl
  rw [List.length_append, sumBytes_length] at hl
  have : body = [] := List.eq_nil_of_length_eq_zero (by simpa using hl)
  subst this
  revert h
  decide +kernel
theorem unseal_no (l : List UInt8) (m : Nat) (x : Int) (cs : Array Value) (w : World) (t : TypeId) (hno : ∀ body, l ≠ sealed body) (hx : x = if l.length < 4 then 11 else 12) (hcs : cs = (byteCells l).toArray) (hm : l.length = m) (hb : m ≤ 100) :
    Calls Try.prog 17 #[.slice (some ⟨w.heap.size, 0, none⟩) m m] (w.alloc (.cells cs t)) fun e w' => e = .returned (.tuple #[.slice none 0 0, .int .i64 x]) ∧ Below (w.alloc (.cells cs t)).heap.size (w.alloc (.cells cs t)) w' := by
  subst hx
  refine (unseal_any _ m m l _ (new_is w t (0, 0) l m cs hcs hm) (by omega)).mono ?_
  rintro e w' ⟨h, hb⟩
  rcases h with ⟨body, v, h, _⟩ | ⟨_, he⟩
  · exact absurd h (hno body)
  · exact ⟨he, hb⟩
theorem unseal_yes (l body : List UInt8) (m : Nat) (cs : Array Value) (w : World) (t : TypeId) (hy : l = sealed body) (hcs : cs = (byteCells l).toArray) (hm : l.length = m) (hb : m ≤ 100) :
    Calls Try.prog 17 #[.slice (some ⟨w.heap.size, 0, none⟩) m m] (w.alloc (.cells cs t)) fun e w' =>
      ∃ A n c, e = .returned (.tuple #[.slice A n c, .int .i64 0]) ∧ IsB w' A n c body ∧ Below (w.alloc (.cells cs t)).heap.size (w.alloc (.cells cs t)) w' := by
  refine (unseal_any _ m m l _ (new_is w t (0, 0) l m cs hcs hm) (by omega)).mono ?_
  rintro e w' ⟨h, hb⟩
  rcases h with ⟨body', v, h, he, ho⟩ | ⟨hno, _⟩
  · obtain rfl : body = body' := sealed_inj (hy.symm.trans h)
    obtain ⟨A, n, c, rfl, hi⟩ := own_slice ho
    exact ⟨A, n, c, he, hi, hb⟩
  · exact absurd hy (hno body)

set_option maxRecDepth 100000 in
set_option maxHeartbeats 2000000 in
theorem walk (w : World) : Calls Try.prog 3 #[] w fun e w' => e = .returned (.bool true) ∧ Below w.heap.size w w' := by
  go_enter Try.func3, Try.ntmps3
  go_wp2_with fail
  go_loopw [1, 2, 3] (fun a b i wr => ∃ j : Nat, i = .int .i64 (j : Int) ∧ 1 ≤ j ∧ j ≤ 11 ∧ (j ≤ 10 → a = .int .u64 (leastN j : Int) ∧ b = .int .u64 (mostN j : Int)) ∧ Below w.heap.size w wr) (fun _ _ i _ => 11 - (intOf i).toNat)
  case atStart => exact ⟨1, rfl, by omega, by omega, fun _ => ⟨rfl, rfl⟩, Below.refl _ _⟩
  case round =>
    obtain ⟨j, rfl, hj1, hj2, hab, hB⟩ := hrel
    obtain ⟨wo, rfl⟩ : ∃ wo : World, wo = wr := ⟨_, rfl⟩
    by_cases hj : j ≤ 10
    · obtain ⟨rfl, rfl⟩ := hab hj
      have F1 := Lib.hid (least_facts j hj1 hj)
      have F2 := Lib.hid (most_facts j hj1 hj)
      generalize hla : leastN j = a at F1
      generalize hlb : mostN j = b at F2
      have HA := Lib.hid hla
      have HB := Lib.hid hlb
      clear hla hlb
      have i0 : ∀ u : World, (Instr.index 23 (.agg #[.int .u64 (a : Int), .int .u64 (b : Int)]) (.int .i64 0)).run Try.prog u = .ok (.int .u64 (a : Int)) u := fun _ => by kernel_rfl
      have i1 : ∀ u : World, (Instr.index 23 (.agg #[.int .u64 (a : Int), .int .u64 (b : Int)]) (.int .i64 1)).run Try.prog u = .ok (.int .u64 (b : Int)) u := fun _ => by kernel_rfl
      go_wp2_with fail
      refine wp_loop_rounds 3 ?_
      rw [rounds_succ]
      go_wp2_with fail
      refine (uint_len a j _ F1.out.2 F1.out.1).mono ?_
      rintro e w1 ⟨A1, c1, rfl, hi1, hb1⟩
      replace hB := bstep0 hB hb1
      have HG1 := Lib.hid (getUint_back A1 j c1 a w1 F1.out.2 hi1)
      clear hi1 hb1
      go_wp2_with fail
      refine HG1.out.mono ?_
      rintro e w1' ⟨rfl, rfl⟩
      clear HG1
      go_wp2_with fail
      rw [rounds_succ]
      go_wp2_with fail
      refine (uint_len b j _ F2.out.2 F2.out.1).mono ?_
      rintro e w2 ⟨A2, c2, rfl, hi2, hb2⟩
      replace hB := bstep0 hB hb2
      have HG2 := Lib.hid (getUint_back A2 j c2 b w2 F2.out.2 hi2)
      clear hi2 hb2
      go_wp2_with fail
      refine HG2.out.mono ?_
      rintro e w2' ⟨rfl, rfl⟩
      clear HG2
      go_wp2_with fail
      clear i0 i1
      by_cases h8 : j ≤ 8
      case' pos =>
        have hbl : b < 144115188075855872 := by
          rw [← HB.out]
          unfold mostN
          rw [if_neg (by omega)]
          have hp : 128 ^ j ≤ 128 ^ 8 := Nat.pow_le_pow_right (by decide) (by omega)
          have : (128 : Nat) ^ 8 = 72057594037927936 := by decide
          omega
        have hor : bits .or .u64 ((b : Int) * 128) 127 = ((b * 128 + 127 : Nat) : Int) := by
          rw [show ((b : Int) * 128) = ((b * 128 : Nat) : Int) by omega, show (127 : Int) = ((127 : Nat) : Int) by rfl, u64_or_nat _ _ (by omega) (by decide), nat_join 7 _ _ (by omega) (by decide)]
        have HM : Hid (b * 128 + 127 = mostN (j + 1)) := by unfold Hid; rw [← HB.out]; exact most_next j hj1 h8
        have HL : Hid (b + 1 = leastN (j + 1)) := by unfold Hid; rw [← HB.out]; exact least_next j hj1 (by omega)
        generalize b * 128 + 127 = bm at hor HM
        have hne9 : ((j : Int) == 9) = false := beq_eq_false_iff_ne.2 (by omega)
        rw [rounds_succ]
        go_wp2_with fail
        go_roundw
        case rel => exact ⟨j + 1, by go_num, by omega, by omega, fun _ => ⟨by rw [← HL.out]; go_num, by rw [← HM.out]⟩, hB⟩
        case measure => simp [intOf]; omega
      case' neg =>
        by_cases h9 : j = 9
        case' pos =>
          subst h9
          have HL : Hid (b + 1 = leastN 10) := by unfold Hid; rw [← HB.out]; exact least_next 9 (by omega) (by omega)
          have hbl : b < 9223372036854775808 := by rw [← HB.out]; decide
          rw [rounds_succ]
          go_wp2_with fail
          go_roundw
          case rel => exact ⟨10, rfl, by omega, by omega, fun _ => ⟨by rw [← HL.out]; go_num, rfl⟩, hB⟩
          case measure => simp [intOf]
        case' neg =>
          obtain rfl : j = 10 := by omega
          rw [rounds_succ]
          go_wp2_with fail
          go_roundw
          case rel => exact ⟨11, rfl, by omega, by omega, fun h => absurd h (by omega), hB⟩
          case measure => simp [intOf]
    · clear hab
      have hmk : ∀ u : World, (Instr.makeSlice 24 (.int .i64 3) (.int .i64 3)).run Try.prog u = .ok (.slice (some ⟨u.heap.size, 0, none⟩) 3 3) (u.alloc (.cells #[Value.int .u8 0, Value.int .u8 0, Value.int .u8 0] 5)) := fun _ => by kernel_rfl
      go_wp2_with fail
      refine (ten_any none 0 0 [] _ (IsB.nil _) (by decide)).mono ?_
      rintro e x1 ⟨A1, m1, c1, rfl, hi1, hlt1, hb1⟩
      replace hB := bstep0 hB hb1
      have HE1 := Lib.hid (errorAt0 A1 m1 c1 _ 11 11 x1 rfl (by decide) hi1 hlt1)
      clear hi1 hlt1 hb1
      go_wp2_with fail
      refine HE1.out.mono ?_
      rintro e y1 ⟨rfl, rfl⟩
      clear HE1
      go_wp2_with fail
      refine (ten_lit [0] 1 _ _ _ _ rfl rfl (by decide)).mono ?_
      rintro e x2 ⟨A2, m2, c2, rfl, hi2, hlt2, hb2⟩
      replace hB := bstep hB hb2
      have HE2 := Lib.hid (errorAt0 A2 m2 c2 _ 10 10 x2 rfl (by decide) hi2 hlt2)
      clear hi2 hlt2 hb2
      go_wp2_with fail
      refine HE2.out.mono ?_
      rintro e y2 ⟨rfl, rfl⟩
      clear HE2
      go_wp2_with fail
      refine (ten_lit [2] 1 _ _ _ _ rfl rfl (by decide)).mono ?_
      rintro e x3 ⟨A3, m3, c3, rfl, hi3, hlt3, hb3⟩
      replace hB := bstep hB hb3
      have HE3 := Lib.hid (errorAt0 A3 m3 c3 _ 10 10 x3 rfl (by decide) hi3 hlt3)
      clear hi3 hlt3 hb3
      go_wp2_with fail
      refine HE3.out.mono ?_
      rintro e y3 ⟨rfl, rfl⟩
      clear HE3
      go_wp2_with fail
      refine (ten_lit [128] 1 _ _ _ _ rfl rfl (by decide)).mono ?_
      rintro e x4 ⟨A4, m4, c4, rfl, hi4, hlt4, hb4⟩
      replace hB := bstep hB hb4
      have HE4 := Lib.hid (errorAt0 A4 m4 c4 _ 10 10 x4 rfl (by decide) hi4 hlt4)
      clear hi4 hlt4 hb4
      go_wp2_with fail
      refine HE4.out.mono ?_
      rintro e y4 ⟨rfl, rfl⟩
      clear HE4
      go_wp2_with fail
      refine (ten_lit [129, 1] 2 _ _ _ _ rfl rfl (by decide)).mono ?_
      rintro e x5 ⟨A5, m5, c5, rfl, hi5, hlt5, hb5⟩
      replace hB := bstep hB hb5
      have HE5 := Lib.hid (errorAt0 A5 m5 c5 _ 10 10 x5 rfl (by decide) hi5 hlt5)
      clear hi5 hlt5 hb5
      go_wp2_with fail
      refine HE5.out.mono ?_
      rintro e y5 ⟨rfl, rfl⟩
      clear HE5
      go_wp2_with fail
      refine (errorAt0 none 0 0 [] 11 11 _ rfl (by decide) (IsB.nil _) (by decide)).mono ?_
      rintro e y6 ⟨rfl, rfl⟩
      go_wp2_with fail
      refine (errorAt_one _ _ _ rfl).mono ?_
      rintro e y7 ⟨rfl, hb7⟩
      replace hB := bstep hB hb7
      clear hb7
      go_wp2_with fail
      refine (errorAt_far _ 2 _ _ (by decide)).mono ?_
      rintro e y8 ⟨rfl, hb8⟩
      replace hB := bstep hB hb8
      clear hb8
      go_wp2_with fail
      refine (errorAt_far _ (-1) _ _ (by decide)).mono ?_
      rintro e y9 ⟨rfl, hb9⟩
      replace hB := bstep hB hb9
      clear hb9
      go_wp2_with fail
      refine wp_loop_rounds 10 ?_
      iterate 10 (rw [rounds_succ]; go_wp2_with fail)
      have hB9 := hB.alloc hB.size (.cells #[Value.int .i64 0, Value.int .i64 0, Value.int .i64 0, Value.int .i64 0, Value.int .i64 0, Value.int .i64 0, Value.int .i64 0, Value.int .i64 0, Value.int .i64 0] 3)
      refine (folds_lit (-9223372036854775808) _ 18446744073709551615 _ rfl (by decide) (by decide) (by decide)).mono ?_
      rintro e z1 ⟨rfl, hz1⟩
      replace hB := hB9.trans (hz1.mono hB9.size)
      clear hz1 hB9
      go_wp2_with fail
      refine (folds_lit 9223372036854775807 _ 18446744073709551614 _ rfl (by decide) (by decide) (by decide)).mono ?_
      rintro e z2 ⟨rfl, hz2⟩
      replace hB := bstep0 hB hz2
      clear hz2
      go_wp2_with fail
      refine (crc_nil _).mono ?_
      rintro e z3 ⟨rfl, hz3⟩
      replace hB := bstep0 hB hz3
      clear hz3
      go_wp2_with fail
      refine (crc_lit0 [0] 1 3523407757 _ _ _ _ _ rfl (by decide +kernel) rfl rfl (by decide)).mono ?_
      rintro e z4 ⟨rfl, hz4⟩
      replace hB := bstep hB hz4
      clear hz4
      go_wp2_with fail
      refine (crc_lit0 [255] 1 4278190080 _ _ _ _ _ rfl (by decide +kernel) rfl rfl (by decide)).mono ?_
      rintro e z5 ⟨rfl, hz5⟩
      replace hB := bstep hB hz5
      clear hz5
      go_wp2_with fail
      refine (crc_lit0 [255, 255, 255, 255] 4 4294967295 _ _ _ _ _ rfl (by decide +kernel) rfl rfl (by decide)).mono ?_
      rintro e z6 ⟨rfl, hz6⟩
      replace hB := bstep hB hz6
      clear hz6
      go_wp2_with fail
      refine (blob_get [2, 7] 2 2 [] 0 11 _ _ _ _ _ rfl rfl (by decide) (by decide) (by decide +kernel) rfl rfl (by decide)).mono ?_
      rintro e z7 ⟨B7, d7, g7, rfl, hi7, hz7⟩
      replace hB := bstep hB hz7
      clear hz7
      go_wp2_with fail
      refine (blob_get [2, 7, 7] 3 1 [] 0 3 _ _ _ _ _ rfl rfl (by decide) (by decide) (by decide +kernel) rfl rfl (by decide)).mono ?_
      rintro e z8 ⟨B8, d8, g8, rfl, hi8, hz8⟩
      replace hB := bstep hB hz8
      clear hz8
      go_wp2_with fail
      refine (blob_get [0] 1 (-1) [] 0 3 _ _ _ _ _ rfl rfl (by decide) (by decide) (by decide +kernel) rfl rfl (by decide)).mono ?_
      rintro e z9 ⟨B9, d9, g9, rfl, hi9, hz9⟩
      replace hB := bstep hB hz9
      clear hz9
      go_wp2_with fail
      refine (blob_get [2, 7, 8, 9] 4 2 [7, 8] 3 0 _ _ _ _ _ rfl rfl (by decide) (by decide) (by decide +kernel) rfl rfl (by decide)).mono ?_
      rintro e z10 ⟨B10, d10, g10, rfl, hi10, hz10⟩
      replace hB := bstep hB hz10
      clear hz10
      go_wp2_with fail
      refine (unseal_no [0, 0, 0] 3 11 _ _ _ (no_short (by decide)) rfl rfl rfl (by decide)).mono ?_
      rintro e z11 ⟨rfl, hz11⟩
      replace hB := bstep hB hz11
      replace hi10 := (hi10.alloc _).below hz11
      clear hz11
      go_wp2_with fail
      refine (unseal_no [0, 0, 0, 1] 4 12 _ _ _ no_0001 rfl rfl rfl (by decide)).mono ?_
      rintro e z12 ⟨rfl, hz12⟩
      replace hB := bstep hB hz12
      replace hi10 := (hi10.alloc _).below hz12
      clear hz12
      go_wp2_with fail
      refine (unseal_yes [255, 255, 255, 255, 255, 255, 255, 255] [255, 255, 255, 255] 8 _ _ _ (by decide +kernel) rfl rfl (by decide)).mono ?_
      rintro e z13 ⟨B13, d13, g13, rfl, hi13, hz13⟩
      replace hB := bstep hB hz13
      replace hi10 := (hi10.alloc _).below hz13
      clear hz13
      have hc10 := str_of _ hi10
      have hc13 := str_of _ hi13
      go_wp2_with fail
      refine (awake_any _).mono ?_
      rintro e z14 ⟨rfl, hz14⟩
      replace hB := bstep0 hB hz14
      go_wp2_with fail
      go_ret
      exact ⟨rfl, hB⟩
end Go.Proofs.Ytepdgldhaojmpaa.bytesNumbers
