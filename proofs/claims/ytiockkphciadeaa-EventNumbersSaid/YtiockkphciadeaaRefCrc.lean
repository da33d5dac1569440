/-
  The definition's Crc.
-/
import Derived.Test.YtiockkphciadeaaRefCrcMath
set_option linter.unusedSimpArgs false
namespace Go.Proofs.Ytiockkphciadeaa
open Go.RowKit
set_option linter.unusedVariables false

theorem halved_any (u : Nat) (w : World) (h1 : u < 4294967296) :
    Calls Try.prog 109 #[.int .u32 (u : Int)] w fun e w' => e = .returned (.int .u32 (halve u : Int)) ∧ w = w' := by
  have hh := halve_int u h1
  by_cases hu : u % 2 = 1
  · have hd : ((u : Int) % 2 == 1) = true := by simp; omega
    rw [if_pos (by omega)] at hh
    have hu2 : (u : Int) % 2 = 1 := by omega
    go_enter Try.func109, Try.ntmps109
    go_wp2_with fail
    go_ret
    exact ⟨rfl, rfl⟩
  · have hd : ((u : Int) % 2 == 1) = false := by simp; omega
    have hu2 : (u : Int) % 2 = 0 := by omega
    rw [if_neg (by omega)] at hh
    go_enter Try.func109, Try.ntmps109
    go_wp2_with fail
    go_ret
    exact ⟨rfl, rfl⟩

theorem still_int (k d : Nat) (hd : d < 32) (h : 8 * k + d < 32) : bits .xor .u32 (still (8 * k) (d + 1) : Int) ((2 : Int) ^ d % 4294967296) = (still (8 * k) d : Int) := by
  have hp : 2 ^ d < 2 ^ 32 := Nat.pow_lt_pow_right (by decide) hd
  have hp' : ((2 ^ d : Nat) : Int) < 4294967296 := by
    have : 2 ^ d < 4294967296 := hp
    omega
  have e : (2 : Int) ^ d % 4294967296 = ((2 ^ d : Nat) : Int) := by
    rw [show (2 : Int) ^ d = ((2 ^ d : Nat) : Int) by push_cast; rfl]
    exact Int.emod_eq_of_lt (Int.natCast_nonneg _) hp'
  rw [e, u32_xor_nat _ _ (still_lt _ _) (by omega), ← still_step k d hd h]

theorem bit_turned {l : List UInt8} {i : Nat} {x : UInt8} (hx : l[i / 8]? = some x) :
    (!((((x.toNat : Int) / 2 ^ (i % 8)).tmod 2 == 1) == decide ((i : Int) < 32))) = decide (turned (bitAt l i) i = 1) := by
  have hb : bitAt l i = x.toNat / 2 ^ (i % 8) % 2 := by unfold bitAt; rw [hx]; rfl
  have hlt := bitAt_lt l i
  have e0 : (x.toNat : Int) / 2 ^ (i % 8) = ((x.toNat / 2 ^ (i % 8) : Nat) : Int) := by rw [Int.natCast_ediv]; simp
  have e : ((x.toNat : Int) / 2 ^ (i % 8)).tmod 2 = ((bitAt l i : Nat) : Int) := by
    rw [e0, hb, Int.tmod_eq_emod_of_nonneg (Int.natCast_nonneg _)]
    exact (Int.natCast_emod _ 2).symm
  rw [e]
  generalize bitAt l i = t at hlt
  unfold turned
  by_cases h32 : i < 32
  · have h32' : (i : Int) < 32 := by omega
    rcases (show t = 0 ∨ t = 1 by omega) with rfl | rfl <;> simp [h32, h32']
  · have h32' : ¬ (i : Int) < 32 := by omega
    rcases (show t = 0 ∨ t = 1 by omega) with rfl | rfl <;> simp [h32, h32']

set_option maxRecDepth 100000 in
set_option maxHeartbeats 1000000 in
theorem refCrc_any (A : Option Addr) (n c : Nat) (l : List UInt8) (w : World) (h : IsB w A n c l) (hn : n ≤ 17592186044416) :
    Calls Try.prog 88 #[.slice A n c] w fun e w' =>
      e = .returned (.int .u32 (crc l : Int)) ∧ Below w.heap.size w w' := by
  go_enter Try.func88, Try.ntmps88
  go_wp2_with fail
  have hI := h
  go_loop [3, 5] (fun v q => ∃ (z : Int) (d : Nat), q = .int .i64 z ∧ v = .int .u32 (still (8 * n) d : Int) ∧ d ≤ 32 ∧ Hid (z = 8 * (n : Int) + d - 1)) (fun _ q => (intOf q - 8 * (n : Int) + 1).toNat)
  case atStart => exact ⟨_, 32, rfl, by rw [still_begin]; rfl, by omega, by show _ = _; omega⟩
  case round =>
    obtain ⟨z, d, rfl, rfl, hd, hz⟩ := hrel
    have hzv := hz.out
    by_cases h0 : 0 < d
    · have dge : decide (8 * (n : Int) ≤ z) = true := by simp; omega
      by_cases h32 : z < 32
      · have d32 : decide (z < 32) = true := by simp; omega
        have hwz : IntKind.i64.wrap (z - 8 * (n : Int)) = z - 8 * (n : Int) := IntWalk.i64_in _ (by omega)
        have hge : 0 ≤ z - 8 * (n : Int) := by omega
        have hge' : 8 * (n : Int) ≤ z := by omega
        have hw1 : IntKind.i64.wrap (z - 1) = z - 1 := IntWalk.i64_in _ (by omega)
        clear hzv
        go_wp2_with fail
        go_round
        case rel =>
          obtain ⟨d, rfl⟩ : ∃ d', d = d' + 1 := ⟨d - 1, by omega⟩
          have hz' := hz.out
          have e : (z - 8 * (n : Int)).toNat = d := by omega
          exact ⟨z - 1, d, rfl, by rw [e, still_int n d (by omega) (by omega)], by omega, by show _ = _; omega⟩
        case measure => have hz' := hz.out; simp [intOf]; omega
      · have d32 : decide (z < 32) = false := by simp; omega
        have hge' : 8 * (n : Int) ≤ z := by omega
        have hw1 : IntKind.i64.wrap (z - 1) = z - 1 := IntWalk.i64_in _ (by omega)
        clear hzv
        go_wp2_with fail
        go_round
        case rel =>
          obtain ⟨d, rfl⟩ : ∃ d', d = d' + 1 := ⟨d - 1, by omega⟩
          have hz' := hz.out
          exact ⟨z - 1, d, rfl, by rw [still_none (8 * n) d (by omega)], by omega, by show _ = _; omega⟩
        case measure => have hz' := hz.out; simp [intOf]; omega
    · obtain rfl : d = 0 := by omega
      have dge : decide (8 * (n : Int) ≤ z) = false := by simp; omega
      have hge' : ¬ 8 * (n : Int) ≤ z := by omega
      rw [still_end]
      clear hzv hz
      go_wp2_with fail
      go_loop [4, 3, 6] (fun wt v q => ∃ (i : Nat) (z2 : Int), q = .int .i64 z2 ∧ i ≤ 8 * n ∧ Hid (z2 = (i : Int) - 1) ∧ v = .int .u32 (tell l (8 * n) i : Int) ∧ wt = .int .u32 (halveN (8 * n - i) 1 : Int)) (fun _ _ q => (intOf q + 1).toNat)
      case atStart => exact ⟨8 * n, _, rfl, Nat.le_refl _, by show _ = _; omega, by rw [tell_end], by rw [Nat.sub_self]; rfl⟩
      case round =>
        obtain ⟨i, z2, rfl, hi, hz2, rfl, rfl⟩ := hrel
        by_cases hi0 : 0 < i
        · obtain ⟨i, rfl⟩ : ∃ i', i = i' + 1 := ⟨i - 1, by omega⟩
          obtain rfl : z2 = (i : Int) := by have := hz2.out; omega
          obtain ⟨b, o, rfl, hcell⟩ : ∃ b o, A = some ⟨b, o, none⟩ ∧ ∀ j u, l[j]? = some u → w.cell? ⟨b, o + j, none⟩ = some (.int .u8 (u.toNat : Int)) := by
            rcases h.src with h0 | h0
            · exact absurd (by rw [h0]; rfl) (show l.length ≠ 0 by have := h.len; omega)
            · exact h0
          obtain ⟨x, hx⟩ : ∃ x, l[i / 8]? = some x := ⟨l[i / 8]'(by have := h.len; omega), List.getElem?_eq_getElem _⟩
          have f1 := hcell _ _ hx
          have hxl := x.toNat_lt
          have hb0 : 0 ≤ (i : Int) / 8 := by omega
          have hb1 : (i : Int) / 8 < (n : Int) := by omega
          have hbt : ((i : Int) / 8).toNat = i / 8 := by omega
          have hrt : ((i : Int) % 8).toNat = i % 8 := by omega
          have hr0 : 0 ≤ (i : Int) % 8 := by omega
          have hq : (i : Int).tdiv 8 = (i : Int) / 8 := Int.tdiv_eq_ediv_of_nonneg (by omega)
          have hr : (i : Int).tmod 8 = (i : Int) % 8 := Int.tmod_eq_emod_of_nonneg (by omega)
          have hw1 : IntKind.i64.wrap ((i : Int) - 1) = (i : Int) - 1 := IntWalk.i64_in _ (by omega)
          have HT := Lib.hid (tell_step l (8 * n) i (by omega))
          have HTl := tell_lt l (8 * n) (i + 1)
          have HW : halveN (8 * n - i) 1 = halve (halveN (8 * n - (i + 1)) 1) := by rw [← halveN_succ, show 8 * n - (i + 1) + 1 = 8 * n - i by omega]
          have HWl := halveN_lt (8 * n - (i + 1)) (u := 1) (by decide)
          have HWd := Lib.hid HW
          clear HW
          generalize halveN (8 * n - (i + 1)) 1 = wt at HWd HWl
          have hbt' := bit_turned hx
          have hwt := halve_lt HWl
          clear hcell hx hI h
          by_cases hb : turned (bitAt l i) i = 1
          · rw [decide_eq_true hb] at hbt'
            have HV : Hid (bits .xor .u32 (tell l (8 * n) (i + 1) : Int) (halve wt : Int) = (tell l (8 * n) i : Int)) := by
              show _ = _
              rw [u32_xor_nat _ _ HTl hwt, HT.out, if_pos hb, HWd.out]
            clear hb
            go_wp2_with fail
            refine (halved_any wt _ HWl).mono ?_
            rintro e w2 ⟨rfl, rfl⟩
            go_wp2_with fail
            go_round
            case rel => exact ⟨i, (i : Int) - 1, rfl, by omega, rfl, by rw [HV.out], by rw [HWd.out]⟩
            case measure => simp [intOf] <;> omega
          · rw [decide_eq_false hb] at hbt'
            have HV : Hid (tell l (8 * n) (i + 1) = tell l (8 * n) i) := by
              show _ = _
              rw [HT.out, if_neg hb, Nat.xor_zero]
            clear hb
            go_wp2_with fail
            refine (halved_any wt _ HWl).mono ?_
            rintro e w2 ⟨rfl, rfl⟩
            go_wp2_with fail
            go_round
            case rel => exact ⟨i, (i : Int) - 1, rfl, by omega, rfl, by rw [HV.out], by rw [HWd.out]⟩
            case measure => simp [intOf] <;> omega
        · obtain rfl : i = 0 := by omega
          have hz3 : ¬ 0 ≤ z2 := by have := hz2.out; omega
          have hlen := h.len
          have HR : Hid (tell l (8 * n) 0 = crcReg 4294967295 l) := by subst hlen; exact tell_zero l
          have hC : IntKind.u32.wrap (4294967295 - (tell l (8 * n) 0 : Int)) = (crc l : Int) := by
            have := tell_lt l (8 * n) 0
            rw [IntKind.wrap_u32, show crc l = 4294967295 - crcReg 4294967295 l from rfl, ← HR.out]
            omega
          clear hlen hz2 h hI
          go_wp2_with fail
          go_ret
          exact ⟨rfl, Below.refl _ _⟩
end Go.Proofs.Ytiockkphciadeaa
