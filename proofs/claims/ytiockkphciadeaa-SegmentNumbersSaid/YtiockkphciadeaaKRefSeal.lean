/-
  The definition's Seal, Unseal.
-/
import Derived.Test.YtiockkphciadeaaK8
import Derived.Test.YtiockkphciadeaaK1
set_option linter.unusedSimpArgs false
namespace Go.Proofs.Ytiockkphciadeaa
open Go.RowKit
set_option linter.unusedVariables false

theorem sum_step (s : Nat) (hs : s < 4294967296) (j : Nat) (hj : j < 4) : (List.replicate (j + 1) (0 : UInt8) ++ (sumBytes s).drop (j + 1)).set j ((s / 256 ^ (3 - j) % 256).toUInt8) = List.replicate j 0 ++ (sumBytes s).drop j := by
  rcases (show j = 0 ∨ j = 1 ∨ j = 2 ∨ j = 3 by omega) with rfl | rfl | rfl | rfl
  · show [(s / 16777216 % 256).toUInt8, _, _, _] = [(s / 16777216).toUInt8, _, _, _]
    rw [Nat.mod_eq_of_lt (by omega)]
  · rfl
  · rfl
  · show [0, 0, 0, (s / 1 % 256).toUInt8] = [0, 0, 0, (s % 256).toUInt8]
    rw [Nat.div_one]

set_option maxRecDepth 100000 in
set_option maxHeartbeats 1000000 in
theorem refSeal_any (A : Option Addr) (n c : Nat) (l : List UInt8) (w : World) (h : IsB w A n c l) (hn : n ≤ 17592186044416) :
    Calls Try.prog 39 #[.slice A n c] w fun e w' =>
      ∃ B m d, e = .returned (.slice B m d) ∧ IsB w' B m d (sealed l) ∧ Below w.heap.size w w' := by
  have hcrc := crc_lt l
  go_enter Try.func39, Try.ntmps39
  go_wp2_with fail
  refine (after_any A n c l _ 4 4 [0, 0, 0, 0] _ (h.alloc _) (new_is _ _ _ [0, 0, 0, 0] 4 _ rfl rfl) (by omega) (by omega)).mono ?_
  rintro e w3 ⟨g, q, rfl, hg1, hg2, hM, hb3⟩
  have hB3 := bstep (Below.refl _ w) hb3
  have hgw : w.heap.size ≤ g := by simp at hg1; omega
  have h3 := (h.alloc _).below hb3
  go_wp2_with fail
  refine (refCrc_any A n c l _ h3 hn).mono ?_
  rintro e w4 ⟨rfl, hb4⟩
  have hB4 := bstep0 hB3 hb4
  have hM4 := hM.below hb4
  clear hM h3 hb3
  go_wp2_with fail
  have hlen := h.len
  have HL := Lib.hid hlen
  clear hlen
  go_loopw [4, 5] (fun v r wr => ∃ (j u : Nat) (z : Int), r = .int .i64 z ∧ j ≤ 4 ∧ Hid (z = (n : Int) + j - 1) ∧ v = .int .u32 (u : Int) ∧ u < 4294967296 ∧ Hid (u = crc l / 256 ^ (4 - j)) ∧ Mine wr g 5 q (l ++ (List.replicate j 0 ++ (sumBytes (crc l)).drop j)) ∧ Below w.heap.size w wr) (fun _ r _ => (intOf r - (n : Int) + 1).toNat)
  case atStart => exact ⟨4, crc l, _, rfl, Nat.le_refl _, by show _ = _; omega, rfl, hcrc, by show _ = _; rw [Nat.sub_self, Nat.pow_zero, Nat.div_one], hM4, hB4⟩
  case round =>
    clear hM4 hB4 hb4 hB3
    obtain ⟨j, u, z, rfl, hj, hz, rfl, hu, HU, hM, hB⟩ := hrel
    by_cases h0 : 0 < j
    · obtain ⟨j, rfl⟩ : ∃ j', j = j' + 1 := ⟨j - 1, by omega⟩
      obtain rfl : z = (n : Int) + (j : Int) := by have := hz.out; omega
      have hge : decide ((n : Int) ≤ (n : Int) + (j : Int)) = true := decide_eq_true (by omega)
      have hb0 : 0 ≤ (n : Int) + (j : Int) := by omega
      have hb1 : (n : Int) + (j : Int) < (n : Int) + 4 := by omega
      have hb2 : (j : Int) < 4 := by omega
      have hbt : ((n : Int) + (j : Int)).toNat = n + j := by omega
      have hw1 : IntKind.i64.wrap ((n : Int) + (j : Int) - 1) = (n : Int) + (j : Int) - 1 := IntWalk.i64_in _ (by omega)
      have f2 := hM.free (n + j)
      obtain ⟨y, hy⟩ : ∃ y, (l ++ (List.replicate (j + 1) 0 ++ (sumBytes (crc l)).drop (j + 1)))[n + j]? = some y :=
        ⟨_, List.getElem?_eq_getElem (by rw [List.length_append, HL.out, List.length_append, List.length_replicate]; omega)⟩
      have f1 := hM.cell hy
      have hgs := (show g < wr.heap.size by obtain ⟨cur, hc, _⟩ := hM; exact (Array.getElem?_eq_some_iff.1 hc).1)
      have hv8 : ((((u % 256).toUInt8)).toNat : Int) = (u : Int) % 256 := by rw [byte_toNat (by omega)]; omega
      have hp := hM.put (n + j) _ _ hv8
      rw [List.set_append_right _ _ (by rw [HL.out]; omega), HL.out, Nat.add_sub_cancel_left, HU.out, show 4 - (j + 1) = 3 - j by omega, sum_step _ hcrc j (by omega)] at hp
      rw [← show 4 - (j + 1) = 3 - j by omega, ← HU.out] at hp
      clear hM hy
      go_wp2_with fail
      go_roundw
      case rel => exact ⟨j, u / 256, _, rfl, by omega, rfl, by simp, by omega, by show _ = _; rw [HU.out, Nat.div_div_eq_div_mul, ← Nat.pow_succ, show (4 - (j + 1)).succ = 4 - j by omega], hp, hB.setCell hgw _⟩
      case measure => simp [intOf]; omega
    · obtain rfl : j = 0 := by omega
      have hge : decide ((n : Int) ≤ z) = false := by have := hz.out; simp; omega
      have hge' : ¬ (n : Int) ≤ z := by have := hz.out; omega
      have hJ : IsB wr (some ⟨g, 0, none⟩) (n + 4) q (sealed l) := hM.is_ (by rw [List.length_append, HL.out]; rfl)
      clear hM
      go_wp2_with fail
      go_ret
      exact ⟨_, _, _, rfl, hJ, hB⟩

end Go.Proofs.Ytiockkphciadeaa
