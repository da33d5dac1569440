/-
  BytesFolds: for any number and any two signed ones the law returns true: signed numbers from 0 on are laid out as the even numbers, those below as the odd ones, each as its own; what is nearer to 0 comes ahead. No condition.
-/
import Derived.Test.YtepdgldhaojmpaaRowB
import Derived.Test.YtepdgldhaojmpaaRows
import Derived.ProofKit
import Derived.ChangeOld
set_option linter.unusedSimpArgs false
namespace Go.Proofs.Ytepdgldhaojmpaa.bytesFolds
open Go.ChangeShapes Go.WideShapes Go.ChangeAt Go.RowKit
open Go.Lib (uvarint)
set_option linter.unusedVariables false

/-- how far from 0, to the one side or the other -/
def farN (z : Int) : Nat := if z < 0 then (-(z + 1)).toNat else z.toNat
theorem far_any (z : Int) (w : World) (h0 : -9223372036854775808 ≤ z) (h1 : z ≤ 9223372036854775807) :
    Calls Try.prog 35 #[.int .i64 z] w fun e w' => e = .returned (.int .u64 (farN z : Int)) ∧ w = w' := by
  by_cases hz : z < 0
  · have hq : ((farN z : Nat) : Int) = -(z + 1) := by
      unfold farN
      rw [if_pos hz]
      omega
    have HQ := Lib.hid hq
    clear hq
    go_enter Try.func35, Try.ntmps35
    go_wp2
    go_ret
    exact ⟨by rw [HQ.out]; rfl, rfl⟩
  · have hq : ((farN z : Nat) : Int) = z := by
      unfold farN
      rw [if_neg hz]
      omega
    have HQ := Lib.hid hq
    clear hq
    go_enter Try.func35, Try.ntmps35
    go_wp2
    go_ret
    exact ⟨by rw [HQ.out]; rfl, rfl⟩

theorem parity (n : Nat) (hn : n < 18446744073709551616) : (bits .and .u64 (n : Int) 1 == 1) = if n % 2 = 0 then false else true := by
  rw [Lib.u64_and1 _ (by omega) (by omega)]
  by_cases h : n % 2 = 0
  · rw [if_pos h, beq_eq_false_iff_ne]; omega
  · rw [if_neg h, beq_iff_eq]; omega

set_option maxRecDepth 100000 in
set_option maxHeartbeats 1000000 in
theorem walk (n : Nat) (a b : Int) (hn : n < 18446744073709551616) (ha0 : -9223372036854775808 ≤ a) (ha1 : a ≤ 9223372036854775807) (hb0 : -9223372036854775808 ≤ b) (hb1 : b ≤ 9223372036854775807) (w : World) :
    Calls Try.prog 7 #[.int .u64 (n : Int), .int .i64 a, .int .i64 b] w fun e w' => e = .returned (.bool true) ∧ Below w.heap.size w w' := by
  have hx0 : -9223372036854775808 ≤ Lib.unzigzag n := by unfold Lib.unzigzag; split <;> omega
  have hx1 : Lib.unzigzag n ≤ 9223372036854775807 := by unfold Lib.unzigzag; split <;> omega
  have hzx := zigzag_unzigzag n
  obtain ⟨x, hx⟩ : ∃ x, x = Lib.unzigzag n := ⟨_, rfl⟩
  rw [← hx] at hx0 hx1 hzx
  have HX := Lib.hid hx
  have HZ := Lib.hid hzx
  clear hx hzx
  go_enter Try.func7, Try.ntmps7
  go_wp2_with fail
  refine (uint_nil n w hn).mono ?_
  rintro e w1 ⟨A1, m, c1, rfl, hi1, hcv1, hB⟩
  have hm := Lib.hid hi1.len
  have HG := Lib.hid (getInt_back A1 m c1 x w1 hx0 hx1 (by rw [HZ.out]; exact hi1))
  clear hi1 hcv1
  go_wp2_with fail
  refine HG.out.mono ?_
  rintro e w2 ⟨rfl, rfl⟩
  clear HG
  go_wp2_with fail
  generalize hgen : (⟨(uvarint n).toArray⟩ : ByteArray) = s
  have HS := Lib.hid hgen
  clear hgen
  refine wp_region_held_drew (S := fun _ => True) (by kernel_rfl) trivial (fun hHeld => ?_)
  refine wpAnyH_take (i := 0) (v := ?_) rfl (by kernel_rfl) (by kernel_rfl) (by kernel_rfl) (fun _ _ _ h => h) (Or.inl ⟨by rfl, ?_⟩) hHeld ?_
  rotate_left
  · (intro w hSw; (try dsimp only at hSw); go_simp <;> rfl)
  simp only [Act.put, List.getElem_toArray, List.getElem_cons_zero, List.getElem_cons_succ, List.setIfInBounds_toArray, List.set_cons_zero, List.set_cons_succ]
  refine wpAnyH_take (i := 1) (v := ?_) rfl (by kernel_rfl) (by kernel_rfl) (by kernel_rfl) (fun _ _ _ h => h) (Or.inl ⟨by rfl, ?_⟩) hHeld ?_
  rotate_left
  · (intro w hSw; (try dsimp only at hSw); go_simp <;> rfl)
  simp only [Act.put, List.getElem_toArray, List.getElem_cons_zero, List.getElem_cons_succ, List.setIfInBounds_toArray, List.set_cons_zero, List.set_cons_succ]
  refine wpAnyH_take (i := 2) (v := ?_) rfl (by kernel_rfl) (by kernel_rfl) (by kernel_rfl) (fun _ _ _ h => h) (Or.inl ⟨by rfl, ?_⟩) hHeld ?_
  rotate_left
  · (intro w hSw; (try dsimp only at hSw); go_simp <;> rfl)
  simp only [Act.put, List.getElem_toArray, List.getElem_cons_zero, List.getElem_cons_succ, List.setIfInBounds_toArray, List.set_cons_zero, List.set_cons_succ]
  refine wpAnyH_take (i := 3) (v := ?_) rfl (by kernel_rfl) (by kernel_rfl) (by kernel_rfl) (fun _ _ _ h => h) (Or.inl ⟨by rfl, ?_⟩) hHeld ?_
  rotate_left
  · (intro w hSw; (try dsimp only at hSw); go_simp <;> rfl)
  simp only [Act.put, List.getElem_toArray, List.getElem_cons_zero, List.getElem_cons_succ, List.setIfInBounds_toArray, List.set_cons_zero, List.set_cons_succ]
  refine wpAnyH_take (i := 4) (v := ?_) rfl (by kernel_rfl) (by kernel_rfl) (by kernel_rfl) (fun _ _ _ h => h) (Or.inl ⟨by rfl, ?_⟩) hHeld ?_
  rotate_left
  · (intro w hSw; (try dsimp only at hSw); go_simp <;> rfl)
  simp only [Act.put, List.getElem_toArray, List.getElem_cons_zero, List.getElem_cons_succ, List.setIfInBounds_toArray, List.set_cons_zero, List.set_cons_succ]
  refine wpAnyH_ready (rs := [5]) (by kernel_rfl) (by simp) ?_
  refine AllReadyH.cons rfl (fun K hK => ?_) AllReadyH.nil
  go_simp
  refine (uint_nil n _ hn).mono ?_
  rintro e w2 ⟨A2, m2, c2, rfl, hi2, hcv2, hb2⟩
  dsimp only
  obtain rfl : m2 = m := hi2.len.symm.trans hm.out
  replace hB := bstep0 hB ((Below.refl _ w1).drew.trans hb2)
  clear hi2 hcv2 hb2
  refine hK.out _ _ trivial (fun hHeld => ?_)
  clear hK K
  try simp only [Act.put, List.getElem_toArray, List.getElem_cons_zero, List.getElem_cons_succ, List.setIfInBounds_toArray, List.set_cons_zero, List.set_cons_succ]
  refine wpAnyH_take (i := 6) (v := ?_) rfl (by kernel_rfl) (by kernel_rfl) (by kernel_rfl) (fun _ _ _ h => h) (Or.inl ⟨by rfl, ?_⟩) hHeld ?_
  rotate_left
  · (intro w hSw; (try dsimp only at hSw); go_simp <;> rfl)
  simp only [Act.put, List.getElem_toArray, List.getElem_cons_zero, List.getElem_cons_succ, List.setIfInBounds_toArray, List.set_cons_zero, List.set_cons_succ]
  refine wpAnyH_take (i := 7) (v := ?_) rfl (by kernel_rfl) (by kernel_rfl) (by kernel_rfl) (fun _ _ _ h => h) (Or.inl ⟨by rfl, ?_⟩) hHeld ?_
  rotate_left
  · (intro w hSw; (try dsimp only at hSw); go_simp <;> rfl)
  simp only [Act.put, List.getElem_toArray, List.getElem_cons_zero, List.getElem_cons_succ, List.setIfInBounds_toArray, List.set_cons_zero, List.set_cons_succ]
  refine wpAnyH_take (i := 8) (v := ?_) rfl (by kernel_rfl) (by kernel_rfl) (by kernel_rfl) (fun _ _ _ h => h) (Or.inl ⟨by rfl, ?_⟩) hHeld ?_
  rotate_left
  · (intro w hSw; (try dsimp only at hSw); go_simp <;> rfl)
  simp only [Act.put, List.getElem_toArray, List.getElem_cons_zero, List.getElem_cons_succ, List.setIfInBounds_toArray, List.set_cons_zero, List.set_cons_succ]
  refine wpAnyH_take (i := 9) (v := ?_) rfl (by kernel_rfl) (by kernel_rfl) (by kernel_rfl) (fun _ _ _ h => h) (Or.inl ⟨by rfl, ?_⟩) hHeld ?_
  rotate_left
  · (intro w hSw; (try dsimp only at hSw); go_simp <;> rfl)
  simp only [Act.put, List.getElem_toArray, List.getElem_cons_zero, List.getElem_cons_succ, List.setIfInBounds_toArray, List.set_cons_zero, List.set_cons_succ]
  refine wpAnyH_take (i := 10) (v := ?_) rfl (by kernel_rfl) (by kernel_rfl) (by kernel_rfl) (fun _ _ _ h => h) (Or.inl ⟨by rfl, ?_⟩) hHeld ?_
  rotate_left
  · (intro w hSw; (try dsimp only at hSw); go_simp <;> rfl)
  simp only [Act.put, List.getElem_toArray, List.getElem_cons_zero, List.getElem_cons_succ, List.setIfInBounds_toArray, List.set_cons_zero, List.set_cons_succ]
  refine wpAnyH_take (i := 13) (v := ?_) rfl (by kernel_rfl) (by kernel_rfl) (by kernel_rfl) (fun _ _ _ h => h) (Or.inl ⟨by rfl, ?_⟩) hHeld ?_
  rotate_left
  · (intro w hSw; (try dsimp only at hSw); go_simp <;> rfl)
  simp only [Act.put, List.getElem_toArray, List.getElem_cons_zero, List.getElem_cons_succ, List.setIfInBounds_toArray, List.set_cons_zero, List.set_cons_succ]
  refine wpAnyH_ready (rs := [11]) (by kernel_rfl) (by simp) ?_
  refine AllReadyH.cons rfl (fun K hK => ?_) AllReadyH.nil
  go_simp
  refine (int_nil x _ hx0 hx1).mono ?_
  rintro e w3 ⟨A3, m3, c3, rfl, hi3, hcv3, hb3⟩
  dsimp only
  replace hB := bstep0 hB hb3
  rw [HZ.out] at hi3 hcv3
  rw [HS.out] at hcv3
  clear hb3
  refine hK.out _ _ trivial (fun hHeld => ?_)
  clear hK K
  try simp only [Act.put, List.getElem_toArray, List.getElem_cons_zero, List.getElem_cons_succ, List.setIfInBounds_toArray, List.set_cons_zero, List.set_cons_succ]
  refine wpAnyH_mono (S' := fun w' => (convert 24 9 (.slice A3 m3 c3)).run Try.prog w' = .ok (.string s) w') (fun _ _ => trivial) _ _ _ _ ?_
  replace hHeld := hcv3
  refine wpAnyH_take (i := 12) (v := ?_) rfl (by kernel_rfl) (by kernel_rfl) (by kernel_rfl) (fun _ _ _ h => h) (Or.inl ⟨by rfl, ?_⟩) hHeld ?_
  rotate_left
  · (intro w hSw; (try dsimp only at hSw); go_simp <;> rfl)
  simp only [Act.put, List.getElem_toArray, List.getElem_cons_zero, List.getElem_cons_succ, List.setIfInBounds_toArray, List.set_cons_zero, List.set_cons_succ]
  refine wpAnyH_ready (rs := [14]) (by kernel_rfl) (by simp) ?_
  refine AllReadyH.cons rfl (fun K hK => ?_) AllReadyH.nil
  go_simp
  refine (uint_nil n _ hn).mono ?_
  rintro e w4 ⟨A4, m4, c4, rfl, hi4, hcv4, hb4⟩
  dsimp only
  rw [HS.out] at hcv4
  replace hB := bstep0 hB hb4
  refine hK.out _ _ (by rw [← HS.out]; exact str_of w4 (hi3.below hb4)) (fun hHeld => ?_)
  clear hK K
  try simp only [Act.put, List.getElem_toArray, List.getElem_cons_zero, List.getElem_cons_succ, List.setIfInBounds_toArray, List.set_cons_zero, List.set_cons_succ]
  refine wpAnyH_mono (S' := fun w' => (convert 24 9 (.slice A3 m3 c3)).run Try.prog w' = .ok (.string s) w' ∧ (convert 24 9 (.slice A4 m4 c4)).run Try.prog w' = .ok (.string s) w') (fun _ h => h.1) _ _ _ _ ?_
  replace hHeld := And.intro hHeld hcv4
  clear hi3 hcv3 hi4 hcv4 hb4
  refine wpAnyH_take (i := 15) (v := ?_) rfl (by kernel_rfl) (by kernel_rfl) (by kernel_rfl) (fun _ _ _ h => h) (Or.inl ⟨by rfl, ?_⟩) hHeld ?_
  rotate_left
  · (intro w hSw; (try dsimp only at hSw); go_simp <;> rfl)
  simp only [Act.put, List.getElem_toArray, List.getElem_cons_zero, List.getElem_cons_succ, List.setIfInBounds_toArray, List.set_cons_zero, List.set_cons_succ]
  refine wpAnyH_take (i := 16) (v := ?_) rfl (by kernel_rfl) (by kernel_rfl) (by kernel_rfl) (fun _ _ _ h => h) (Or.inl ⟨by rfl, ?_⟩) hHeld ?_
  rotate_left
  · (intro w hSw; (try dsimp only at hSw); go_simp <;> rfl)
  simp only [Act.put, List.getElem_toArray, List.getElem_cons_zero, List.getElem_cons_succ, List.setIfInBounds_toArray, List.set_cons_zero, List.set_cons_succ]
  refine wpAnyH_take (i := 17) (v := ?_) rfl (by kernel_rfl) (by kernel_rfl) (by kernel_rfl) (fun _ _ _ h => h) (Or.inl ⟨by rfl, ?_⟩) hHeld ?_
  rotate_left
  · (intro w hSw; (try dsimp only at hSw); go_simp <;> rfl)
  simp only [Act.put, List.getElem_toArray, List.getElem_cons_zero, List.getElem_cons_succ, List.setIfInBounds_toArray, List.set_cons_zero, List.set_cons_succ]
  refine wpAnyH_done (by kernel_rfl) ?_ _
  clear hHeld HS HZ hx0 hx1
  have hza := Lib.zigzag_lt ha0 ha1
  have hzb := Lib.zigzag_lt hb0 hb1
  have hkb : n / 2 < 9223372036854775808 := by omega
  have hpar := parity n hn
  have hxe : x = if n % 2 = 0 then ((n / 2 : Nat) : Int) else -((n / 2 : Nat) : Int) - 1 := by rw [HX.out]; rfl
  have hdiv : (n : Int) / 2 = ((n / 2 : Nat) : Int) := by omega
  clear HX
  have hpa : Lib.zigzag a / 2 = farN a := by unfold Lib.zigzag farN; split <;> split <;> omega
  have hpb : Lib.zigzag b / 2 = farN b := by unfold Lib.zigzag farN; split <;> split <;> omega
  have hinj : Lib.zigzag a = Lib.zigzag b ↔ a = b := ⟨fun h => by rw [← unzigzag_zigzag a, h, unzigzag_zigzag], fun h => by rw [h]⟩
  obtain ⟨r, hr1, hr2⟩ : ∃ r : Bool, ((Lib.zigzag a : Int) == (Lib.zigzag b : Int)) = r ∧ (a == b) = r := by
    by_cases h : a = b
    · exact ⟨true, by rw [h]; simp, by rw [h]; simp⟩
    · exact ⟨false, beq_eq_false_iff_ne.2 (fun e => h (hinj.1 (by omega))), beq_eq_false_iff_ne.2 h⟩
  clear hinj
  generalize hgp : Lib.zigzag a = p at hza hpa hr1
  generalize hgq : Lib.zigzag b = q at hzb hpb hr1
  have HP := Lib.hid hgp
  have HQ := Lib.hid hgq
  generalize hfa : farN a = fa at hpa
  generalize hfb : farN b = fb at hpb
  have HFA := Lib.hid hfa
  have HFB := Lib.hid hfb
  have HPA := Lib.hid hpa
  have HPB := Lib.hid hpb
  clear hgp hgq hfa hfb hpa hpb
  by_cases hev : n % 2 = 0
  case' pos =>
    rw [if_pos hev] at hxe hpar
    generalize n / 2 = k at hxe hdiv hkb
    subst hxe
    clear hev
    go_wp2_with fail
  case' neg =>
    rw [if_neg hev] at hxe hpar
    generalize n / 2 = k at hxe hdiv hkb
    subst hxe
    clear hev
    go_wp2_with fail
  all_goals
    clear hdiv hpar
    refine (int_nil a _ ha0 ha1).mono ?_
    rintro e w5 ⟨A5, m5, c5, rfl, hi5, hcv5, hb5⟩
    rw [HP.out] at hi5
    have HA := Lib.hid (getUint_back A5 m5 c5 _ w5 hza hi5)
    replace hB := bstep0 hB hb5
    clear hi5 hcv5 hb5
    go_wp2_with fail
    refine HA.out.mono ?_
    rintro e w6 ⟨rfl, rfl⟩
    clear HA
    go_wp2_with fail
    refine (int_nil b _ hb0 hb1).mono ?_
    rintro e w7 ⟨A7, m7, c7, rfl, hi7, hcv7, hb7⟩
    rw [HQ.out] at hi7
    have HB := Lib.hid (getUint_back A7 m7 c7 _ w7 hzb hi7)
    replace hB := bstep0 hB hb7
    clear hi7 hcv7 hb7
    go_wp2_with fail
    refine HB.out.mono ?_
    rintro e w8 ⟨rfl, rfl⟩
    clear HB
    go_wp2_with fail
    refine (far_any a _ ha0 ha1).mono ?_
    rintro e w9 ⟨rfl, rfl⟩
    rw [HFA.out]
    go_wp2_with fail
    refine (far_any b _ hb0 hb1).mono ?_
    rintro e w10 ⟨rfl, rfl⟩
    rw [HFB.out]
    clear hr1 hr2
    by_cases hf : fb ≤ fa
    case' pos =>
      go_wp2_with fail
    case' neg =>
      have hlt : p < q := by have := HPA.out; have := HPB.out; omega
      go_wp2_with fail
    all_goals
      refine (awake_any _).mono ?_
      rintro e w11 ⟨rfl, hb11⟩
      go_wp2_with fail
      go_ret
      exact ⟨rfl, bstep0 hB hb11⟩
end Go.Proofs.Ytepdgldhaojmpaa.bytesFolds
