/-
  BytesNoughts: for any bytes and any number of noughts the law returns true: noughts that come ahead of bytes change the sum; noughts that come behind them do, but where it is 2^32 - 1: there none ever does. No condition.
-/
import Derived.Test.YtepdgldhaojmpaaWithin
import Derived.Test.YtepdgldhaojmpaaNoughtsMath
set_option linter.unusedSimpArgs false
namespace Go.Proofs.Ytepdgldhaojmpaa.bytesNoughts
open Go.ChangeShapes Go.WideShapes Go.ChangeAt Go.RowKit
open Go.Lib (uvarint byteCells)
set_option linter.unusedVariables false

theorem made_is (w : World) (m : Nat) : IsB (w.alloc (.cells (madeCells #[.int .u8 0] m) 5)) (some ⟨w.heap.size, 0, none⟩) m m (List.replicate m 0) := by
  refine new_is w 5 (0, 0) (List.replicate m 0) m _ ?_ (by simp)
  apply Array.toList_inj.1
  rw [toList_madeCells_one]
  simp [byteCells]

set_option maxRecDepth 100000 in
set_option maxHeartbeats 1000000 in
theorem walk (A : Option Addr) (n0 c0 : Nat) (l : List UInt8) (a1 : Nat) (ha : a1 < 256) (w : World) (h : IsB w A n0 c0 l) :
    Calls Try.prog 8 #[.slice A n0 c0, .int .u8 (a1 : Int)] w fun e w' => e = .returned (.bool true) ∧ Below w.heap.size w w' := by
  by_cases h300 : 300 < n0
  · clear h
    go_enter Try.func8, Try.ntmps8
    go_wp2_with fail
    refine (awake_any _).mono ?_
    rintro e w1 ⟨rfl, hb⟩
    go_wp2_with fail
    go_ret
    exact ⟨rfl, hb⟩
  · obtain ⟨i0, hi, hz0, hz1, hz2⟩ := info_parts infoByte
    obtain ⟨m, hm⟩ : ∃ m : Nat, m = 1 + a1 % 200 := ⟨_, rfl⟩
    have hm1 : 1 ≤ m := by omega
    have hm2 : m ≤ 200 := by omega
    have hmi : (1 : Int) + (a1 : Int) % 200 = (m : Int) := by omega
    have hmk : ∀ u : World, (Instr.makeSlice 24 (.int .i64 (m : Int)) (.int .i64 (m : Int))).run Try.prog u =
        .ok (.slice (some ⟨u.heap.size, 0, none⟩) m m) (u.alloc (.cells (madeCells #[.int .u8 0] m) 5)) := fun u => by
      have h := run_make (P := Try.prog) u 24 5 i0 (.int .u8 0) Try.underlying24 hi hz0 .i64 .i64 (m : Int) (m : Int) (by omega) (Int.le_refl _) (by rw [hz2]; omega) (by omega)
      simpa [hz1, Value.cells] using h
    clear hm
    go_enter Try.func8, Try.ntmps8
    go_wp2_with fail
    have hZ := made_is w m
    have hL := h.alloc (.cells (madeCells #[.int .u8 0] m) 5)
    have hB : Below w.heap.size w (w.alloc (.cells (madeCells #[.int .u8 0] m) 5)) := (Below.refl _ _).alloc (Nat.le_refl _) _
    have hl := h.len
    clear h hmk hmi
    refine (crc_any A n0 c0 l _ hL (by omega)).mono ?_
    rintro e w2 ⟨rfl, hb2⟩
    replace hB := bstep0 hB hb2
    replace hL := hL.below hb2
    replace hZ := hZ.below hb2
    clear hb2
    have HA := Lib.hid (noughts_ahead l hm1 hm2)
    have HBH := Lib.hid (noughts_behind l hm1 hm2)
    have HC := crc_lt l
    go_wp2_with (first | (at_builtin; refine wpList_putAny _ rfl (.tmp 20) (.tmp 21) 24 rfl 5 i0 Try.underlying24 hi hz0 hz1 hz2 w2.heap.size _ [] rfl (own_empty w2 5) (some ⟨w.heap.size, 0, none⟩) m m (List.replicate m 0) rfl (hZ.alloc _) (by first | omega | (simp; omega)) (by simp) ?_; rintro va3 wa3 ho3a hb3a; rw [List.nil_append] at ho3a; have hk3a := ((Below.refl w2.heap.size w2).alloc (Nat.le_refl _) (.cells #[] 5)).trans hb3a; have hs3a := hk3a.size; have hx3 := hL.below hk3a; clear hb3a) | (at_builtin; refine wpList_putAny _ rfl (.tmp 22) (.tmp 23) 24 rfl 5 i0 Try.underlying24 hi hz0 hz1 hz2 w2.heap.size _ (List.replicate m 0) rfl ho3a A n0 c0 l rfl hx3 (by first | omega | (simp; omega)) hs3a ?_; rintro vb3 wb3 ho3b hb3b; have hk3b := hk3a.trans hb3b; clear hb3b ho3a hx3 hk3a))
    obtain ⟨A3, m3, c3, rfl, hi3⟩ := own_slice ho3b
    have hlen3 : m3 ≤ 1000 := by have := hi3.len; rw [List.length_append, List.length_replicate] at this; omega
    refine (crc_any A3 m3 c3 ((List.replicate m 0) ++ l) _ hi3 (by omega)).mono ?_
    rintro e we3 ⟨rfl, hbe3⟩
    replace hB := (hB.trans (hk3b.mono hB.size)).trans (hbe3.mono (Nat.le_trans hB.size hk3b.size))
    replace hL := (hL.below hk3b).below hbe3
    replace hZ := (hZ.below hk3b).below hbe3
    clear hi3 ho3b hk3b hbe3 hlen3
    generalize hga : crc (List.replicate m 0 ++ l) = sa at HA
    clear hga
    go_wp2_with (first | (at_builtin; refine wpList_putAny _ rfl (.tmp 26) (.tmp 27) 24 rfl 5 i0 Try.underlying24 hi hz0 hz1 hz2 we3.heap.size _ [] rfl (own_empty we3 5) A n0 c0 l rfl (hL.alloc _) (by first | omega | (simp; omega)) (by simp) ?_; rintro va6 wa6 ho6a hb6a; rw [List.nil_append] at ho6a; have hk6a := ((Below.refl we3.heap.size we3).alloc (Nat.le_refl _) (.cells #[] 5)).trans hb6a; have hs6a := hk6a.size; have hx6 := hZ.below hk6a; clear hb6a) | (at_builtin; refine wpList_putAny _ rfl (.tmp 28) (.tmp 29) 24 rfl 5 i0 Try.underlying24 hi hz0 hz1 hz2 we3.heap.size _ l rfl ho6a (some ⟨w.heap.size, 0, none⟩) m m (List.replicate m 0) rfl hx6 (by first | omega | (simp; omega)) hs6a ?_; rintro vb6 wb6 ho6b hb6b; have hk6b := hk6a.trans hb6b; clear hb6b ho6a hx6 hk6a))
    obtain ⟨A6, m6, c6, rfl, hi6⟩ := own_slice ho6b
    have hlen6 : m6 ≤ 1000 := by have := hi6.len; rw [List.length_append, List.length_replicate] at this; omega
    refine (crc_any A6 m6 c6 (l ++ (List.replicate m 0)) _ hi6 (by omega)).mono ?_
    rintro e we6 ⟨rfl, hbe6⟩
    replace hB := (hB.trans (hk6b.mono hB.size)).trans (hbe6.mono (Nat.le_trans hB.size hk6b.size))
    replace hL := (hL.below hk6b).below hbe6
    replace hZ := (hZ.below hk6b).below hbe6
    clear hi6 ho6b hk6b hbe6 hlen6
    have hcb := crc_lt (l ++ List.replicate m 0)
    generalize hgb : crc (l ++ List.replicate m 0) = sb at HBH hcb
    generalize hgs : crc l = sc at HA HBH HC
    clear hgb hgs hL hZ
    have hne : ((sa : Int) != (sc : Int)) = true := by rw [bne_iff_ne]; have := HA.out; omega
    obtain ⟨r, hr1, hr2⟩ : ∃ r : Bool, ((sb : Int) == (sc : Int)) = r ∧ ((sc : Int) == 4294967295) = r := by
      by_cases hq : sc = 4294967295
      · have h2 := HBH.out.2 hq
        exact ⟨true, beq_iff_eq.2 (by omega), beq_iff_eq.2 (by omega)⟩
      · have h2 : sb ≠ sc := fun e => hq (HBH.out.1 e)
        exact ⟨false, beq_eq_false_iff_ne.2 (by omega), beq_eq_false_iff_ne.2 (by omega)⟩
    go_wp2_with fail
    refine (awake_any _).mono ?_
    rintro e w9 ⟨rfl, hb9⟩
    go_wp2_with fail
    go_ret
    exact ⟨rfl, bstep0 hB hb9⟩

theorem walk' (A : Option Addr) (n0 c0 : Nat) (l : List UInt8) (a1 : Int) (w1 : (Lit.int .u8 a1).wf = true) (w : World) (h : IsB w A n0 c0 l) :
    Calls Try.prog 8 #[.slice A n0 c0, .int .u8 a1] w fun e w' => e = .returned (.bool true) ∧ Below w.heap.size w w' := by
  have h1 := wf_u8 w1
  obtain ⟨n, rfl⟩ := Int.eq_ofNat_of_zero_le h1.1
  exact walk A n0 c0 l n (by omega) w h

theorem own : ownKnob Try.prog.godebug = none := by kernel_rfl
theorem laidOut : laidOutB Try.prog = true := by kernel_rfl
set_option maxRecDepth 100000 in
theorem lifted (os : Os) (started : os.Started) (H : Type) (enc : TypeId × Value → H) :
    ReturnsInHanded {} Try.checked os 8 .any (Rows.bytesNoughtsSpec.pre6 enc Try.prog Try.f8 Rows.bytesNoughtsRow.domain false) (Rows.bytesNoughtsSpec.post enc Try.prog Try.f8 false true false false) := by
  refine returnsInHanded_of_change (C := Try.checked) own started (by kernel_rfl) Try.func8
    (ChangeSpec.witness6 (enc := enc) (C := Try.checked) false ⟨#[], #[.slice none 0 0, .int .u8 0], []⟩ 8 (by kernel_rfl) (by kernel_rfl) (by kernel_rfl) (by kernel_rfl)) ?_
  intro W base args ds gs before hval0 hW hcnd _
  have hval : ∀ (j : Nat) t v, Try.f8.params[j]? = some t → args[j]? = some v → Value.okWide Try.prog W .any base t v := hval0
  have hW' := hW
  obtain ⟨p, q, hA0, hV, rfl, hfz, hnd⟩ := hW
  have hA : DataW.TrodAll enc Try.prog W 0 (fun _ => true) true Try.f8.params.toList args.toList ds p := hA0
  rw [Try.params8] at hA hval
  obtain ⟨v0, vs0, d0, ds0, p0, q0, hargs, rfl, rfl, h0, r0⟩ := trodAll_cons hA
  obtain ⟨v1, vs1, d1, ds1, p1, q1, rfl, rfl, rfl, h1, r1⟩ := trodAll_cons r0
  obtain ⟨rfl, rfl, rfl⟩ := trodAll_nil r1
  obtain rfl : args = #[v0, v1] := by cases args; simp_all
  obtain ⟨rfl, rfl⟩ := trodVars_none hV
  obtain ⟨a0, len0, cap0, rfl⟩ := okWide_slice Try.underlying24 (hval 0 24 v0 rfl rfl)
  have k0 := h0
  have lt0 : ∀ x ∈ p0, x.block < W.heap.size := by obtain ⟨m, hm⟩ := k0; exact DataW.trod_lt m _ _ _ hm
  obtain ⟨l0, hb0⟩ : ∃ l, IsB W a0 len0 cap0 l := by
    obtain ⟨fuel, hf⟩ := h0
    rcases open_ints Try.underlying24 Try.underlying5 (by kernel_rfl) hf with ⟨hcs, _⟩ | ⟨x, l, c, zs, hcs, _, hl, hm, hz, _, hcell, hwz⟩
    · simp [Value.cells] at hcs
      obtain ⟨rfl, rfl, rfl⟩ := hcs
      exact ⟨[], IsB.nil W⟩
    · simp [Value.cells] at hcs
      obtain ⟨rfl, rfl, rfl⟩ := hcs
      exact isB_of_row hl (by simpa using hz) hcell hwz
  obtain ⟨a1, rfl, rfl, rfl, w1⟩ := open_int Try.underlying5 (hval 1 5 v1 rfl rfl) h1
  clear hA0 hval0
  refine (walk' a0 len0 cap0 l0 a1 w1 W hb0).mono fun e W' ⟨he, bel⟩ => ?_
  subst he
  exact ⟨_, rfl, _, _, _, [], _, [], hW', trodAll_mk1 (shut_bool Try.underlying4 _), (trodAll_cons_mk (Below.trod laidOut (by kernel_rfl) (of_decide_eq_true (by kernel_rfl)) k0 bel lt0) (trodAll_cons_mk (shut_int Try.underlying5 w1) trodAll_mk0)), rfl, bel.frame _, fun h => by cases h⟩

theorem proved : Rows.BytesNoughtsSaid :=
  OpenClaim.holds_of_wide 8 Try.f8 rfl rfl rfl rfl rfl rfl rfl ⟨rfl, rfl, rfl, rfl, rfl⟩ rfl rfl rfl rfl rfl (by kernel_rfl) Try.func8 (by kernel_rfl)
    (of_decide_eq_true (by kernel_rfl)) (by unfold Func.isWrapper; first | (rw [if_pos (by decide +kernel)]; kernel_rfl) | (rw [if_neg (by decide +kernel)]; exact ⟨rfl, rfl⟩))
    (fun os started H enc _ => lifted os started H enc)
#print axioms proved
end Go.Proofs.Ytepdgldhaojmpaa.bytesNoughts
