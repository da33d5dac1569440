/-
  Crc: the sum of bytes, for all bytes, in every world.
-/
import Derived.Test.YtiockkphciadeaaSum
namespace Go.Proofs.Ytiockkphciadeaa
open Go.RowKit

theorem and15 (r : Nat) (h : r < 4294967296) : bits .and .u32 (r : Int) 15 = ((r % 16 : Nat) : Int) := by
  rw [show (15 : Int) = ((15 : Nat) : Int) by rfl, u32_and_nat _ _ h (by omega), nat_mask4]
theorem half4 (r : Nat) (h : r < 4294967296) : bits .xor .u32 ((r : Int) / 16) ((halveN 4 (r % 16) : Nat) : Int) = ((halveN 4 r : Nat) : Int) := by
  rw [show ((r : Int) / 16) = ((r / 16 : Nat) : Int) by omega, u32_xor_nat _ _ (by omega) (halveN_lt 4 (by omega)), ← halve4]
theorem xor_byte (r x : Nat) (h : r < 4294967296) (hx : x < 256) : bits .xor .u32 (r : Int) (x : Int) = ((r ^^^ x : Nat) : Int) := u32_xor_nat _ _ h (by omega)
theorem xor_ones32 (b : Nat) (hb : b < 2 ^ 32) : (2 ^ 32 - 1) ^^^ b = 2 ^ 32 - 1 - b := by
  apply Nat.eq_of_testBit_eq
  intro i
  rw [Nat.testBit_xor, Nat.testBit_two_pow_sub_one, show 2 ^ 32 - 1 - b = 2 ^ 32 - (b + 1) by omega, Nat.testBit_two_pow_sub_succ hb]
  by_cases hi : i < 32
  · simp [hi]
  · have : b.testBit i = false := Nat.testBit_lt_two_pow (Nat.lt_of_lt_of_le hb (Nat.pow_le_pow_right (by decide) (by omega)))
    simp [hi, this]
theorem xor_max32 (r : Nat) (h : r < 4294967296) : bits .xor .u32 IntKind.u32.max (r : Int) = ((4294967295 - r : Nat) : Int) := by
  have e2 : IntKind.u32.max = ((2 ^ 32 - 1 : Nat) : Int) := by decide
  rw [e2, u32_xor_nat _ _ (by decide) h, xor_ones32 r (by omega)]
theorem crcReg_snoc (r : Nat) {l : List UInt8} {k : Nat} {x : UInt8} (h : l[k]? = some x) : crcReg r (l.take (k + 1)) = crcStep (crcReg r (l.take k)) x.toNat := by
  obtain ⟨hk, e⟩ := List.getElem?_eq_some_iff.1 h
  rw [List.take_succ_eq_append_getElem hk, crcReg_append, e]
  rfl

set_option maxRecDepth 100000 in
set_option maxHeartbeats 400000 in
theorem crc_any (A : Option Addr) (n c : Nat) (l : List UInt8) (w : World) (h : IsB w A n c l) (hn : n ≤ 35184372088832) :
    Calls Try.prog 94 #[.slice A n c] w fun e w' => e = .returned (.int .u32 (crc l : Int)) ∧ Below w.heap.size w w' := by
  go_enter Try.func94, Try.ntmps94
  go_wp2_with fail
  refine (halvedFour_any w).mono ?_
  rintro e w1 ⟨rfl, hb⟩
  have h1 := h.below hb
  have hsz : theTab.size = 16 := by simp [theTab, tabUp]
  have hst := run_store_row (P := Try.prog) (Row.new w1 159 (tabUp 0)) (cs := theTab) (by simp [theTab, tabUp]) (tabUp_one 16)
  rw [tab0] at hst
  go_wp2_with fail
  have hR : Row ((w1.alloc (.cells (tabUp 0) 159)).setRow w1.heap.size theTab) w1.heap.size 159 (tabUp 16) := (Row.new w1 _ _).over
  have hB1 : Below w1.heap.size w1 ((w1.alloc (.cells (tabUp 0) 159)).setRow w1.heap.size theTab) := below_setRow _ ((Below.refl _ _).alloc (Nat.le_refl _) _) (Nat.le_refl _)
  have h2 := h1.below hB1
  have hB := hb.trans (hB1.mono hb.size)
  clear hst hsz h1 hB1 h hb
  rw [tab0] at hR h2 hB
  generalize (w1.alloc (.cells #[Value.int .u32 0, Value.int .u32 0, Value.int .u32 0, Value.int .u32 0, Value.int .u32 0, Value.int .u32 0, Value.int .u32 0, Value.int .u32 0, Value.int .u32 0, Value.int .u32 0, Value.int .u32 0, Value.int .u32 0, Value.int .u32 0, Value.int .u32 0, Value.int .u32 0, Value.int .u32 0] 159)).setRow w1.heap.size theTab = W at hR h2 hB ⊢
  generalize w1.heap.size = g at hR ⊢
  obtain ⟨hl, hcap, hnone, hsrc⟩ := h2
  go_loop [4, 10] (fun q i => ∃ k : Nat, i = .int .i64 (k : Int) ∧ k ≤ n ∧ q = .int .u32 (crcReg 4294967295 (l.take k) : Int)) (fun _ i => n - (intOf i).toNat)
  case atStart => exact ⟨0, rfl, by omega, rfl⟩
  case round =>
    obtain ⟨k, rfl, hk, rfl⟩ := hrel
    have hr := crcReg_lt (l.take k) (r := 4294967295) (by decide)
    by_cases hlt : k < n
    · have HX : Hid (l[k]? = some (l[k]'(by omega))) := List.getElem?_eq_getElem _
      generalize l[k]'(by omega) = x at HX
      obtain ⟨b, o, rfl, hc⟩ : ∃ b o, A = some ⟨b, o, none⟩ ∧ W.cell? ⟨b, o + k, none⟩ = some (.int .u8 (x.toNat : Int)) := by
        rcases hsrc with rfl | ⟨b, o, hA, hc⟩
        · simp at hl; omega
        · exact ⟨b, o, hA, hc _ _ HX.out⟩
      have HS := Lib.hid (crcReg_snoc 4294967295 HX.out)
      have hxb : x.toNat < 256 := x.toNat_lt
      generalize crcReg 4294967295 (l.take k) = r at hr HS
      generalize x.toNat = y at hc HS hxb
      have hxor := xor_byte r y hr hxb
      have hq : r ^^^ y < 4294967296 := Nat.xor_lt_two_pow (n := 32) (by omega) (by omega)
      have HC : Hid (crcStep r y = halveN 8 (r ^^^ y)) := rfl
      generalize r ^^^ y = q at hxor hq HC
      go_wp2_with fail
      clear hxor
      go_loop [4, 18] (fun q' i => ∃ j : Nat, i = .int .i64 (j : Int) ∧ j ≤ 2 ∧ q' = .int .u32 (halveN (4 * j) q : Int)) (fun _ i => 2 - (intOf i).toNat)
      case atStart => exact ⟨0, rfl, by omega, rfl⟩
      case round =>
        obtain ⟨j, rfl, hj, rfl⟩ := hrel
        have hlt2 := halveN_lt (4 * j) (u := q) hq
        by_cases hj2 : j < 2
        · have HT : Hid (halveN (4 * (j + 1)) q = halveN 4 (halveN (4 * j) q)) := by
            unfold Hid
            rw [show 4 * (j + 1) = 4 + 4 * j by omega, halveN_add]
          clear hc
          generalize halveN (4 * j) q = v at hlt2 HT
          have ha := and15 v hlt2
          have hx4 := half4 v hlt2
          have hcell := (hR.cell (v % 16)).trans (tabUp_get (by omega))
          rw [if_pos (by omega)] at hcell
          have hm : v % 16 < 16 := by omega
          generalize v % 16 = m at ha hx4 hcell hm
          generalize halveN 4 m = t at hx4 hcell
          generalize halveN 4 v = z at hx4 HT
          go_wp2_with fail
          go_round
          case rel => exact ⟨j + 1, by go_num, by omega, by rw [HT.out]⟩
          case measure => simp [intOf]; omega
        · obtain rfl : j = 2 := by omega
          clear hc hlt2
          have HZ : Hid (crcReg 4294967295 (l.take (k + 1)) = halveN (4 * 2) q) := by
            unfold Hid
            rw [HS.out, HC.out]
          generalize halveN (4 * 2) q = z at HZ
          go_wp2_with fail
          go_round
          case rel => exact ⟨k + 1, by go_num, by omega, by rw [HZ.out]⟩
          case measure => simp [intOf]; omega
    · obtain rfl : k = n := by omega
      have HE : Hid (bits .xor .u32 IntKind.u32.max (crcReg 4294967295 (l.take k) : Int) = ((crc l : Nat) : Int)) := by
        unfold Hid
        rw [xor_max32 _ hr]
        unfold crc
        rw [List.take_of_length_le (by omega)]
      generalize crcReg 4294967295 (l.take k) = r at hr HE
      go_wp2_with fail
      go_ret
      exact ⟨by rw [← HE.out]; rfl, hB⟩
end Go.Proofs.Ytiockkphciadeaa
