/-
  The definition's Uint, Int, Blob, GetInt.
-/
import Derived.Test.YtebpdlggkncliaaKRefGet
import Derived.Test.YtebpdlggkncliaaK2
import Derived.Test.YtebpdlggkncliaaK1
set_option linter.unusedSimpArgs false
namespace Go.Proofs.Ytebpdlggkncliaa
open Go.RowKit
open Go.Lib (byteCells byteCells_length byteCells_append uvarint uvarint_small uvarint_big)
set_option linter.unusedVariables false

theorem uv_len (x : Nat) (hx : x < 18446744073709551616) {A : Option Addr} {m c : Nat} {w : World} (h : IsB w A m c (uvarint x)) : m ≤ 10 := by
  rw [← h.len]; exact Lib.uvarint_length64 hx

set_option maxRecDepth 100000 in
set_option maxHeartbeats 1000000 in
theorem refUint_any (A : Option Addr) (n c x : Nat) (l : List UInt8) (w : World) (h : IsB w A n c l) (hn : n ≤ 17592186044416) (hx : x < 18446744073709551616) :
    Calls Try.prog 111 #[.slice A n c, .int .u64 (x : Int)] w fun e w' =>
      ∃ B m d, e = .returned (.slice B m d) ∧ IsB w' B m d (l ++ uvarint x) ∧ Below w.heap.size w w' := by
  go_enter Try.func111, Try.ntmps111
  go_wp2_with fail
  refine (varint_any x _ hx).mono ?_
  rintro e w1 ⟨A1, m1, c1, rfl, hI1, hb1⟩
  have hm1 := uv_len x hx hI1
  have h2 := h.below hb1
  go_wp2_with fail
  refine (after_any A n c l A1 m1 c1 _ _ h2 hI1 (by omega) (by omega)).mono ?_
  rintro e w2 ⟨g, k, rfl, hg1, hg2, hM, hb2⟩
  have hJ := hM.is_ (n := n + m1) (by rw [List.length_append, h.len, hI1.len])
  have hB := bstep0 hb1 hb2
  clear hM
  go_wp2_with fail
  go_ret
  exact ⟨_, _, _, rfl, hJ, hB⟩
theorem zig_neg {x : Int} (h : x < 0) : 2 * (-1 - x) + 1 = (Lib.zigzag x : Int) := by
  unfold Lib.zigzag
  split <;> omega
theorem zig_pos {x : Int} (h : ¬ x < 0) : 2 * x = (Lib.zigzag x : Int) := by
  unfold Lib.zigzag
  split <;> omega

set_option maxRecDepth 100000 in
set_option maxHeartbeats 1000000 in
theorem refInt_any (A : Option Addr) (n c : Nat) (x : Int) (l : List UInt8) (w : World) (h : IsB w A n c l) (hn : n ≤ 17592186044416) (h0 : -9223372036854775808 ≤ x) (h1 : x ≤ 9223372036854775807) :
    Calls Try.prog 104 #[.slice A n c, .int .i64 x] w fun e w' =>
      ∃ B m d, e = .returned (.slice B m d) ∧ IsB w' B m d (l ++ uvarint (Lib.zigzag x)) ∧ Below w.heap.size w w' := by
  have hz := Lib.zigzag_lt h0 h1
  by_cases hx : x < 0
  · have H := Lib.hid (zig_neg hx)
    go_enter Try.func104, Try.ntmps104
    go_wp2_with fail
    rw [H.out]
    refine (refUint_any A n c _ l _ h hn hz).mono ?_
    rintro e w1 ⟨A1, m1, c1, rfl, hI1, hb1⟩
    go_wp2_with fail
    go_ret
    exact ⟨_, _, _, rfl, hI1, hb1⟩
  · have H := Lib.hid (zig_pos hx)
    go_enter Try.func104, Try.ntmps104
    go_wp2_with fail
    rw [H.out]
    refine (refUint_any A n c _ l _ h hn hz).mono ?_
    rintro e w1 ⟨A1, m1, c1, rfl, hI1, hb1⟩
    go_wp2_with fail
    go_ret
    exact ⟨_, _, _, rfl, hI1, hb1⟩
set_option maxRecDepth 100000 in
set_option maxHeartbeats 1000000 in
theorem refGetInt_of {A : Option Addr} {n c : Nat} {kk : Int} {v nx er : Nat} {w : World} (hv : v < 18446744073709551616) (he : er = 0 ∨ v = 0)
    (hU : Calls Try.prog 101 #[.slice A n c, .int .i64 kk] w fun e w' => e = .returned (.tuple #[.int .u64 (v : Int), .int .i64 (nx : Int), .int .i64 (er : Int)]) ∧ Below w.heap.size w w') :
    Calls Try.prog 93 #[.slice A n c, .int .i64 kk] w fun e w' =>
      e = .returned (.tuple #[.int .i64 (Lib.unzigzag v), .int .i64 (nx : Int), .int .i64 (er : Int)]) ∧ Below w.heap.size w w' := by
  by_cases h0 : er = 0
  · subst h0
    by_cases h1 : v % 2 = 1
    · have hd : ((v : Int) % 2 == 1) = true := by simp; omega
      have hz : Lib.unzigzag v = -1 - (v : Int) / 2 := by unfold Lib.unzigzag; rw [if_neg (by omega)]; omega
      rw [hz]
      clear hz he
      go_enter Try.func93, Try.ntmps93
      go_wp2_with fail
      refine hU.mono ?_
      rintro e w1 ⟨rfl, hb1⟩
      go_wp2_with fail
      refine bodyPost_ret (v := .tuple #[.int .i64 (-1 - (v : Int) / 2), .int .i64 (nx : Int), .int .i64 (0)]) (by simp [results, Try.results93, go_sem]) rfl ⟨rfl, hb1⟩
    · have hd : ((v : Int) % 2 == 1) = false := by simp; omega
      have hz : Lib.unzigzag v = (v : Int) / 2 := by unfold Lib.unzigzag; rw [if_pos (by omega)]; omega
      rw [hz]
      clear hz he
      go_enter Try.func93, Try.ntmps93
      go_wp2_with fail
      refine hU.mono ?_
      rintro e w1 ⟨rfl, hb1⟩
      go_wp2_with fail
      refine bodyPost_ret (v := .tuple #[.int .i64 ((v : Int) / 2), .int .i64 (nx : Int), .int .i64 (0)]) (by simp [results, Try.results93, go_sem]) rfl ⟨rfl, hb1⟩
  · obtain rfl : v = 0 := by omega
    have hz : Lib.unzigzag 0 = 0 := by decide
    have hd : ((er : Int) == 0) = false := by simp; omega
    rw [hz]
    clear hz he
    go_enter Try.func93, Try.ntmps93
    go_wp2_with fail
    refine hU.mono ?_
    rintro e w1 ⟨rfl, hb1⟩
    go_wp2_with fail
    refine bodyPost_ret (v := .tuple #[.int .i64 (0), .int .i64 (nx : Int), .int .i64 (er : Int)]) (by simp [results, Try.results93, go_sem]) rfl ⟨rfl, hb1⟩

theorem refGetInt_any (A : Option Addr) (n c k : Nat) (l : List UInt8) (w : World) (h : IsB w A n c l) (hn : n ≤ 17592186044416) (hk : k ≤ n) :
    Calls Try.prog 93 #[.slice A n c, .int .i64 (k : Int)] w fun e w' =>
      e = .returned (ansI k (getU (l.drop k))) ∧ Below w.heap.size w w' :=
  refGetInt_of (getU_lt _) ((getU_err _).imp id And.left) (refGetUint_any A n c k l w h hn hk)
theorem refGetInt_out (A : Option Addr) (n c : Nat) (k : Int) (w : World) (hk : k < 0 ∨ (n : Int) < k) :
    Calls Try.prog 93 #[.slice A n c, .int .i64 k] w fun e w' =>
      e = .returned (.tuple #[.int .i64 0, .int .i64 0, .int .i64 2]) ∧ Below w.heap.size w w' :=
  refGetInt_of (v := 0) (nx := 0) (er := 2) (by decide) (.inr rfl) (refGetUint_out A n c k w hk)
end Go.Proofs.Ytebpdlggkncliaa

/-
  The definition's GetBlob.
-/
set_option linter.unusedSimpArgs false
namespace Go.Proofs.Ytebpdlggkncliaa
open Go.RowKit
open Go.Lib (byteCells byteCells_length byteCells_append uvarint)
set_option linter.unusedVariables false

end Go.Proofs.Ytebpdlggkncliaa

/-
  The definition's Seal, Unseal.
-/
set_option linter.unusedSimpArgs false
namespace Go.Proofs.Ytebpdlggkncliaa
open Go.RowKit
set_option linter.unusedVariables false

theorem sum_step (s : Nat) (hs : s < 4294967296) (j : Nat) (hj : j < 4) : (List.replicate (j + 1) (0 : UInt8) ++ (sumBytes s).drop (j + 1)).set j ((s / 256 ^ (3 - j) % 256).toUInt8) = List.replicate j 0 ++ (sumBytes s).drop j := by
  rcases (show j = 0 ∨ j = 1 ∨ j = 2 ∨ j = 3 by omega) with rfl | rfl | rfl | rfl
  · show [(s / 16777216 % 256).toUInt8, _, _, _] = [(s / 16777216).toUInt8, _, _, _]
    rw [Nat.mod_eq_of_lt (by omega)]
  · rfl
  · rfl
  · show [0, 0, 0, (s / 1 % 256).toUInt8] = [0, 0, 0, (s % 256).toUInt8]
    rw [Nat.div_one]

set_option maxRecDepth 100000 in
set_option maxHeartbeats 1000000 in
theorem refSeal_any (A : Option Addr) (n c : Nat) (l : List UInt8) (w : World) (h : IsB w A n c l) (hn : n ≤ 17592186044416) :
    Calls Try.prog 52 #[.slice A n c] w fun e w' =>
      ∃ B m d, e = .returned (.slice B m d) ∧ IsB w' B m d (sealed l) ∧ Below w.heap.size w w' := by
  have hcrc := crc_lt l
  go_enter Try.func52, Try.ntmps52
  go_wp2_with fail
  refine (after_any A n c l _ 4 4 [0, 0, 0, 0] _ (h.alloc _) (new_is _ _ _ [0, 0, 0, 0] 4 _ rfl rfl) (by omega) (by omega)).mono ?_
  rintro e w3 ⟨g, q, rfl, hg1, hg2, hM, hb3⟩
  have hB3 := bstep (Below.refl _ w) hb3
  have hgw : w.heap.size ≤ g := by simp at hg1; omega
  have h3 := (h.alloc _).below hb3
  go_wp2_with fail
  refine (refCrc_any A n c l _ h3 hn).mono ?_
  rintro e w4 ⟨rfl, hb4⟩
  have hB4 := bstep0 hB3 hb4
  have hM4 := hM.below hb4
  clear hM h3 hb3
  go_wp2_with fail
  have hlen := h.len
  have HL := Lib.hid hlen
  clear hlen
  go_loopw [4, 5] (fun v r wr => ∃ (j u : Nat) (z : Int), r = .int .i64 z ∧ j ≤ 4 ∧ Hid (z = (n : Int) + j - 1) ∧ v = .int .u32 (u : Int) ∧ u < 4294967296 ∧ Hid (u = crc l / 256 ^ (4 - j)) ∧ Mine wr g 5 q (l ++ (List.replicate j 0 ++ (sumBytes (crc l)).drop j)) ∧ Below w.heap.size w wr) (fun _ r _ => (intOf r - (n : Int) + 1).toNat)
  case atStart => exact ⟨4, crc l, _, rfl, Nat.le_refl _, by show _ = _; omega, rfl, hcrc, by show _ = _; rw [Nat.sub_self, Nat.pow_zero, Nat.div_one], hM4, hB4⟩
  case round =>
    clear hM4 hB4 hb4 hB3
    obtain ⟨j, u, z, rfl, hj, hz, rfl, hu, HU, hM, hB⟩ := hrel
    by_cases h0 : 0 < j
    · obtain ⟨j, rfl⟩ : ∃ j', j = j' + 1 := ⟨j - 1, by omega⟩
      obtain rfl : z = (n : Int) + (j : Int) := by have := hz.out; omega
      have hge : decide ((n : Int) ≤ (n : Int) + (j : Int)) = true := decide_eq_true (by omega)
      have hb0 : 0 ≤ (n : Int) + (j : Int) := by omega
      have hb1 : (n : Int) + (j : Int) < (n : Int) + 4 := by omega
      have hb2 : (j : Int) < 4 := by omega
      have hbt : ((n : Int) + (j : Int)).toNat = n + j := by omega
      have hw1 : IntKind.i64.wrap ((n : Int) + (j : Int) - 1) = (n : Int) + (j : Int) - 1 := IntWalk.i64_in _ (by omega)
      have f2 := hM.free (n + j)
      obtain ⟨y, hy⟩ : ∃ y, (l ++ (List.replicate (j + 1) 0 ++ (sumBytes (crc l)).drop (j + 1)))[n + j]? = some y :=
        ⟨_, List.getElem?_eq_getElem (by rw [List.length_append, HL.out, List.length_append, List.length_replicate]; omega)⟩
      have f1 := hM.cell hy
      have hgs := (show g < wr.heap.size by obtain ⟨cur, hc, _⟩ := hM; exact (Array.getElem?_eq_some_iff.1 hc).1)
      have hv8 : ((((u % 256).toUInt8)).toNat : Int) = (u : Int) % 256 := by rw [byte_toNat (by omega)]; omega
      have hp := hM.put (n + j) _ _ hv8
      rw [List.set_append_right _ _ (by rw [HL.out]; omega), HL.out, Nat.add_sub_cancel_left, HU.out, show 4 - (j + 1) = 3 - j by omega, sum_step _ hcrc j (by omega)] at hp
      rw [← show 4 - (j + 1) = 3 - j by omega, ← HU.out] at hp
      clear hM hy
      go_wp2_with fail
      go_roundw
      case rel => exact ⟨j, u / 256, _, rfl, by omega, rfl, by simp, by omega, by show _ = _; rw [HU.out, Nat.div_div_eq_div_mul, ← Nat.pow_succ, show (4 - (j + 1)).succ = 4 - j by omega], hp, hB.setCell hgw _⟩
      case measure => simp [intOf]; omega
    · obtain rfl : j = 0 := by omega
      have hge : decide ((n : Int) ≤ z) = false := by have := hz.out; simp; omega
      have hge' : ¬ (n : Int) ≤ z := by have := hz.out; omega
      have hJ : IsB wr (some ⟨g, 0, none⟩) (n + 4) q (sealed l) := hM.is_ (by rw [List.length_append, HL.out]; rfl)
      clear hM
      go_wp2_with fail
      go_ret
      exact ⟨_, _, _, rfl, hJ, hB⟩

set_option maxRecDepth 100000 in
set_option maxHeartbeats 1000000 in
theorem refUnseal_any (A : Option Addr) (n c : Nat) (l : List UInt8) (w : World) (h : IsB w A n c l) (hn : n ≤ 17592186044416) :
    Calls Try.prog 118 #[.slice A n c] w fun e w' =>
      ((∃ body B m d, l = sealed body ∧ e = .returned (.tuple #[.slice B m d, .int .i64 0]) ∧ IsB w' B m d body) ∨
       ((∀ body, l ≠ sealed body) ∧ e = .returned (.tuple #[.slice none 0 0, .int .i64 (if l.length < 4 then 11 else 12)]))) ∧ Below w.heap.size w w' := by
  by_cases h4 : n < 4
  · have hno : ∀ body, l ≠ sealed body := fun body hb => by
      have := congrArg List.length hb
      unfold sealed at this
      rw [List.length_append, sumBytes_length, h.len] at this
      omega
    rw [if_pos (by rw [h.len]; exact h4)]
    clear h
    go_enter Try.func118, Try.ntmps118
    go_wp2_with fail
    refine bodyPost_ret (v := .tuple #[.slice none 0 0, .int .i64 11]) (by simp [results, Try.results118, go_sem]) rfl ⟨.inr ⟨hno, rfl⟩, Below.refl _ _⟩
  · obtain ⟨m, rfl⟩ : ∃ m, n = m + 4 := ⟨n - 4, by omega⟩
    rw [if_neg (by rw [h.len]; exact h4)]
    have hcap := h.cap
    have hto : ∀ w, (Instr.slice 26 (.slice A (m + 4) c) none (some (.int .i64 (m : Int))) none).run Try.prog w = .ok (.slice (if c = 0 then A else A.map (·.add 0)) m (c - 0)) w := fun w => run_to w A (m + 4) c m (by omega)
    have hJ := h.cut (i := 0) (m := m) (by omega)
    rw [List.drop_zero] at hJ
    generalize (if c = 0 then A else A.map (·.add 0)) = B2 at hto hJ
    generalize c - 0 = d2 at hto hJ
    go_enter Try.func118, Try.ntmps118
    go_wp2_with fail
    have hlj := hJ.len
    refine (after_any B2 m d2 _ none 0 0 [] _ hJ (IsB.nil _) (by omega) (by omega)).mono ?_
    rintro e w2 ⟨g, q, rfl, hg1, hg2, hM, hb2⟩
    rw [List.append_nil] at hM
    have hIn := hM.is_ (n := m) hlj
    rw [Nat.add_zero] at ⊢
    replace h := h.below hb2
    have hno : (∀ body, l = sealed body → sealed (l.take m) = l) := fun body hb => by
      have e1 := congrArg List.length hb
      unfold sealed at e1
      rw [List.length_append, sumBytes_length, h.len] at e1
      have : l.take m = body := by
        rw [hb]
        unfold sealed
        rw [List.take_left' (by omega)]
      rw [this, ← hb]
    generalize l.take m = J at hIn hno hJ hlj
    clear hM hJ hto hcap
    have HL := Lib.hid hlj
    clear hlj
    obtain ⟨sl, hsl⟩ : ∃ s : ByteArray, s = ⟨l.toArray⟩ := ⟨_, rfl⟩
    have HSL := Lib.hid hsl
    clear hsl
    by_cases heq : sealed J = l
    · have HE := Lib.hid heq
      clear heq hno
      go_wp2_with fail
      refine wp_region_held_drew (S := fun w' => (convert 26 9 (.slice A (m + 4) c)).run Try.prog w' = .ok (.string sl) w') (by kernel_rfl) (str_as w2.drew h.drew HSL.out) (fun hHeld => ?_)
      refine wpAnyH_take (i := 0) (v := ?_) rfl (by kernel_rfl) (by kernel_rfl) (by kernel_rfl) (fun _ _ _ h => h) (Or.inl ⟨by rfl, ?_⟩) hHeld ?_
      rotate_left
      · (intro w hSw; (try dsimp only at hSw); go_simp <;> rfl)
      simp only [Act.put, List.getElem_toArray, List.getElem_cons_zero, List.getElem_cons_succ, List.setIfInBounds_toArray, List.set_cons_zero, List.set_cons_succ]
      refine wpAnyH_take (i := 3) (v := ?_) rfl (by kernel_rfl) (by kernel_rfl) (by kernel_rfl) (fun _ _ _ h => h) (Or.inl ⟨by rfl, ?_⟩) hHeld ?_
      rotate_left
      · (intro w hSw; (try dsimp only at hSw); go_simp <;> rfl)
      simp only [Act.put, List.getElem_toArray, List.getElem_cons_zero, List.getElem_cons_succ, List.setIfInBounds_toArray, List.set_cons_zero, List.set_cons_succ]
      refine wpAnyH_take (i := 4) (v := ?_) rfl (by kernel_rfl) (by kernel_rfl) (by kernel_rfl) (fun _ _ _ h => h) (Or.inl ⟨by rfl, ?_⟩) hHeld ?_
      rotate_left
      · (intro w hSw; (try dsimp only at hSw); go_simp <;> rfl)
      simp only [Act.put, List.getElem_toArray, List.getElem_cons_zero, List.getElem_cons_succ, List.setIfInBounds_toArray, List.set_cons_zero, List.set_cons_succ]
      refine wpAnyH_ready (rs := [1]) (by kernel_rfl) (by simp) ?_
      refine AllReadyH.cons rfl (fun K hK => ?_) AllReadyH.nil
      go_simp
      refine (refSeal_any _ m q J w2.drew hIn.drew (by omega)).mono ?_
      rintro e w3 ⟨A3, m3, c3, rfl, hI3, hb3⟩
      dsimp only
      refine hK.out _ _ (str_as w3 (h.drew.below hb3) HSL.out) (fun hHeld => ?_)
      clear hK K
      try simp only [Act.put, List.getElem_toArray, List.getElem_cons_zero, List.getElem_cons_succ, List.setIfInBounds_toArray, List.set_cons_zero, List.set_cons_succ]
      have hc3 := str_as w3 hI3 (HSL.out.trans (by rw [HE.out]))
      refine wpAnyH_mono (S' := fun w' => (convert 26 9 (.slice A (m + 4) c)).run Try.prog w' = .ok (.string sl) w' ∧ (convert 26 9 (.slice A3 m3 c3)).run Try.prog w' = .ok (.string sl) w') (fun _ h => h.1) _ _ _ _ ?_
      replace hHeld := And.intro hHeld hc3
      clear hc3 hI3
      refine wpAnyH_take (i := 2) (v := ?_) rfl (by kernel_rfl) (by kernel_rfl) (by kernel_rfl) (fun _ _ _ h => h) (Or.inl ⟨by rfl, ?_⟩) hHeld ?_
      rotate_left
      · (intro w hSw; (try dsimp only at hSw); go_simp <;> rfl)
      simp only [Act.put, List.getElem_toArray, List.getElem_cons_zero, List.getElem_cons_succ, List.setIfInBounds_toArray, List.set_cons_zero, List.set_cons_succ]
      refine wpAnyH_take (i := 5) (v := ?_) rfl (by kernel_rfl) (by kernel_rfl) (by kernel_rfl) (fun _ _ _ h => h) (Or.inl ⟨by rfl, ?_⟩) hHeld ?_
      rotate_left
      · (intro w hSw; (try dsimp only at hSw); go_simp <;> rfl)
      simp only [Act.put, List.getElem_toArray, List.getElem_cons_zero, List.getElem_cons_succ, List.setIfInBounds_toArray, List.set_cons_zero, List.set_cons_succ]
      refine wpAnyH_done (by kernel_rfl) ?_ _
      clear hHeld
      have hK3 := hIn.drew.below hb3
      have hB3 := bstep0 hb2.drew hb3
      go_wp2_with fail
      refine bodyPost_ret (v := .tuple #[.slice (some ⟨g, 0, none⟩) m q, .int .i64 0]) (by simp [results, Try.results118, go_sem]) rfl ⟨.inl ⟨J, _, _, _, HE.out.symm, rfl, hK3⟩, hB3⟩
    · have hnn : ∀ body, l ≠ sealed body := fun body hb => heq (hno body hb)
      obtain ⟨sV, hsV⟩ : ∃ s : ByteArray, s = ⟨(sealed J).toArray⟩ := ⟨_, rfl⟩
      have HSV := Lib.hid hsV
      have hne := strs_ne HSV.out HSL.out heq
      clear heq hno hsV
      go_wp2_with fail
      refine wp_region_held_drew (S := fun w' => (convert 26 9 (.slice A (m + 4) c)).run Try.prog w' = .ok (.string sl) w') (by kernel_rfl) (str_as w2.drew h.drew HSL.out) (fun hHeld => ?_)
      refine wpAnyH_take (i := 0) (v := ?_) rfl (by kernel_rfl) (by kernel_rfl) (by kernel_rfl) (fun _ _ _ h => h) (Or.inl ⟨by rfl, ?_⟩) hHeld ?_
      rotate_left
      · (intro w hSw; (try dsimp only at hSw); go_simp <;> rfl)
      simp only [Act.put, List.getElem_toArray, List.getElem_cons_zero, List.getElem_cons_succ, List.setIfInBounds_toArray, List.set_cons_zero, List.set_cons_succ]
      refine wpAnyH_take (i := 3) (v := ?_) rfl (by kernel_rfl) (by kernel_rfl) (by kernel_rfl) (fun _ _ _ h => h) (Or.inl ⟨by rfl, ?_⟩) hHeld ?_
      rotate_left
      · (intro w hSw; (try dsimp only at hSw); go_simp <;> rfl)
      simp only [Act.put, List.getElem_toArray, List.getElem_cons_zero, List.getElem_cons_succ, List.setIfInBounds_toArray, List.set_cons_zero, List.set_cons_succ]
      refine wpAnyH_take (i := 4) (v := ?_) rfl (by kernel_rfl) (by kernel_rfl) (by kernel_rfl) (fun _ _ _ h => h) (Or.inl ⟨by rfl, ?_⟩) hHeld ?_
      rotate_left
      · (intro w hSw; (try dsimp only at hSw); go_simp <;> rfl)
      simp only [Act.put, List.getElem_toArray, List.getElem_cons_zero, List.getElem_cons_succ, List.setIfInBounds_toArray, List.set_cons_zero, List.set_cons_succ]
      refine wpAnyH_ready (rs := [1]) (by kernel_rfl) (by simp) ?_
      refine AllReadyH.cons rfl (fun K hK => ?_) AllReadyH.nil
      go_simp
      refine (refSeal_any _ m q J w2.drew hIn.drew (by omega)).mono ?_
      rintro e w3 ⟨A3, m3, c3, rfl, hI3, hb3⟩
      dsimp only
      refine hK.out _ _ (str_as w3 (h.drew.below hb3) HSL.out) (fun hHeld => ?_)
      clear hK K
      try simp only [Act.put, List.getElem_toArray, List.getElem_cons_zero, List.getElem_cons_succ, List.setIfInBounds_toArray, List.set_cons_zero, List.set_cons_succ]
      have hc3 := str_as w3 hI3 HSV.out
      refine wpAnyH_mono (S' := fun w' => (convert 26 9 (.slice A (m + 4) c)).run Try.prog w' = .ok (.string sl) w' ∧ (convert 26 9 (.slice A3 m3 c3)).run Try.prog w' = .ok (.string sV) w') (fun _ h => h.1) _ _ _ _ ?_
      replace hHeld := And.intro hHeld hc3
      clear hc3 hI3
      refine wpAnyH_take (i := 2) (v := ?_) rfl (by kernel_rfl) (by kernel_rfl) (by kernel_rfl) (fun _ _ _ h => h) (Or.inl ⟨by rfl, ?_⟩) hHeld ?_
      rotate_left
      · (intro w hSw; (try dsimp only at hSw); go_simp <;> rfl)
      simp only [Act.put, List.getElem_toArray, List.getElem_cons_zero, List.getElem_cons_succ, List.setIfInBounds_toArray, List.set_cons_zero, List.set_cons_succ]
      refine wpAnyH_take (i := 5) (v := ?_) rfl (by kernel_rfl) (by kernel_rfl) (by kernel_rfl) (fun _ _ _ h => h) (Or.inl ⟨by rfl, ?_⟩) hHeld ?_
      rotate_left
      · (intro w hSw; (try dsimp only at hSw); go_simp <;> rfl)
      simp only [Act.put, List.getElem_toArray, List.getElem_cons_zero, List.getElem_cons_succ, List.setIfInBounds_toArray, List.set_cons_zero, List.set_cons_succ]
      refine wpAnyH_done (by kernel_rfl) ?_ _
      clear hHeld
      have hK3 := hIn.drew.below hb3
      have hB3 := bstep0 hb2.drew hb3
      go_wp2_with fail
      refine bodyPost_ret (v := .tuple #[.slice none 0 0, .int .i64 12]) (by simp [results, Try.results118, go_sem]) rfl ⟨.inr ⟨hnn, rfl⟩, hB3⟩
end Go.Proofs.Ytebpdlggkncliaa
