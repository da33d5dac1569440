/-
  Lists of events, held against one another and copied.
-/
import Derived.Test.YtiockkphciadeaaEvReadC
import Derived.Test.YtiockkphciadeaaSame
import Derived.BigQuiet
import Derived.Lib.ConvBytes
import Derived.Deep.Onto
set_option linter.unusedVariables false
set_option linter.unusedSimpArgs false
namespace Go.Proofs.Ytiockkphciadeaa
open Go.RowKit
open Go.Lib (byteCells byteCells_length byteCells_append uvarint)

/-- the place that Pick chooses -/
def pickOf (x : Int) (n : Nat) : Nat := if n < 2 then 0 else (x % (n : Int)).toNat
theorem pickOf_lt (x : Int) {n : Nat} (h : 0 < n) : pickOf x n < n := by
  unfold pickOf
  split
  · omega
  · have := Int.emod_lt_of_pos x (show (0 : Int) < (n : Int) by omega)
    have := Int.emod_nonneg x (show (n : Int) ≠ 0 by omega)
    omega
theorem below_drewN {B : Nat} {w w1 : World} (h : Below B w w1) (k : Nat) : Below B w (w1.drewN k) := ⟨h.os, h.tape, h.output, h.size, h.block⟩
theorem Ev.eq_iff (x y : Ev) : (x.th = y.th ∧ x.op = y.op ∧ x.obj = y.obj ∧ x.a = y.a ∧ x.b = y.b) ↔ x = y := by
  cases x; cases y; simp
instance : DecidableEq Ev := fun x y => decidable_of_iff _ (Ev.eq_iff x y)

theorem run_eqEv (x y : Ev) (w : World) :
    (Op.equalIn 10000 54 (.agg #[.int .i64 x.th, .int .u8 (x.op : Int), .int .i64 x.obj, .int .i64 x.a, .int .i64 x.b]) (.agg #[.int .i64 y.th, .int .u8 (y.op : Int), .int .i64 y.obj, .int .i64 y.a, .int .i64 y.b])).run Try.prog w =
      .ok (decide (x = y)) w := by
  have : decide (x = y) = (decide (x.th = y.th) && (decide (x.op = y.op) && (decide (x.obj = y.obj) && (decide (x.a = y.a) && decide (x.b = y.b))))) := by
    rw [Bool.eq_iff_iff]
    simp [← Ev.eq_iff]
  rw [this]
  go_simp
  by_cases h1 : x.th = y.th <;> by_cases h2 : x.op = y.op <;> by_cases h3 : x.obj = y.obj <;> by_cases h4 : x.a = y.a <;> by_cases h5 : x.b = y.b <;> simp [h1, h2, h3, h4, h5, Int.natCast_inj]

theorem take_snocE {es : List Ev} {j : Nat} {x : Ev} (hx : es[j]? = some x) : es.take (j + 1) = es.take j ++ [x] := take_snoc hx
set_option maxRecDepth 100000 in
set_option maxHeartbeats 1000000 in
theorem sameev_any {w : World} {A : Option Addr} {n c : Nat} {l : List Ev} {B : Option Addr} {m d : Nat} {k : List Ev} (h1 : IsEv w A n c l) (h2 : IsEv w B m d k) (hn : n ≤ 1000000) (hm : m ≤ 1000000) :
    Calls Try.prog 47 #[.slice A n c, .slice B m d] w fun e w' => e = .returned (.bool (decide (l = k))) ∧ Below w.heap.size w w' := by
  have HL1 := Lib.hid h1.len
  have HL2 := Lib.hid h2.len
  by_cases hnm : n = m
  · subst hnm
    have hd0 : ((n : Int) != (n : Int)) = false := by simp
    go_enter Try.func47, Try.ntmps47
    go_wp2_with fail
    go_loopw [5] (fun q wr => ∃ i : Nat, q = .int .i64 (i : Int) ∧ i ≤ n ∧ Hid (l.take i = k.take i) ∧ IsEv wr A n c l ∧ IsEv wr B n d k ∧ Below w.heap.size w wr) (fun q _ => n - (intOf q).toNat)
    case atStart => exact ⟨0, rfl, by omega, by show _ = _; simp, h1, h2, Below.refl _ _⟩
    case round =>
      clear h1 h2
      obtain ⟨i, rfl, hin, ht, h1, h2, hB⟩ := hrel
      by_cases a1 : i < n
      · obtain ⟨b, o, x, rfl, hx, x0, x1, x2, x3, x4⟩ := h1.at_ a1
        obtain ⟨b', o', y, rfl, hy, y0, y1, y2, y3, y4⟩ := h2.at_ a1
        have hcap1 := h1.cap
        have hcap2 := h2.cap
        obtain ⟨r, hr, he⟩ : ∃ r : Bool, (r = decide (x = y)) ∧ ∀ W : World, (Op.equalIn 10000 54 (.agg #[.int .i64 x.th, .int .u8 (x.op : Int), .int .i64 x.obj, .int .i64 x.a, .int .i64 x.b]) (.agg #[.int .i64 y.th, .int .u8 (y.op : Int), .int .i64 y.obj, .int .i64 y.a, .int .i64 y.b])).run Try.prog W = .ok r W :=
          ⟨_, rfl, fun W => run_eqEv x y W⟩
        have hd : decide ((i : Int) < (n : Int)) = true := decide_eq_true (by omega)
        have q0 : (0 : Int) ≤ (i : Int) := by omega
        have q1 : (i : Int) < (n : Int) := by omega
        have HR := Lib.hid hr
        have HX := Lib.hid hx
        have HY := Lib.hid hy
        have H1 := Lib.hid h1
        have H2 := Lib.hid h2
        clear hr hx hy h1 h2
        cases r with
        | true =>
          have hxy : Hid (x = y) := Lib.hid (of_decide_eq_true HR.out.symm)
          go_wp2_with fail
          go_quiet (fail)
          go_wp2_with fail
          go_roundw
          case rel => exact ⟨i + 1, by go_num, by omega, by show _ = _; rw [take_snoc HX.out, take_snoc HY.out, ht.out, hxy.out], H1.out.below (below_drewN (Below.refl _ _) _), H2.out.below (below_drewN (Below.refl _ _) _), below_drewN hB _⟩
          case measure => simp [intOf]; omega
        | false =>
          have HF : Hid (decide (l = k) = false) := by
            show _ = _
            refine decide_eq_false fun hlk => ?_
            have h3 := HX.out
            rw [hlk, HY.out] at h3
            have h4 := of_decide_eq_false HR.out.symm
            exact h4 (Option.some.inj h3).symm
          go_wp2_with fail
          go_quiet (fail)
          go_wp2_with fail
          go_ret
          exact ⟨by rw [HF.out]; rfl, below_drewN hB _⟩
      · obtain rfl : i = n := by omega
        have hd : decide ((i : Int) < (i : Int)) = false := by simp
        have HT : Hid (decide (l = k) = true) := by
          show _ = _
          refine decide_eq_true ?_
          have := ht.out
          rwa [List.take_of_length_le (by rw [HL1.out]; exact Nat.le_refl _), List.take_of_length_le (by rw [HL2.out]; exact Nat.le_refl _)] at this
        clear h1 h2
        go_wp2_with fail
        go_ret
        exact ⟨by rw [HT.out]; rfl, hB⟩
  · have hd0 : ((n : Int) != (m : Int)) = true := by simp; omega
    have HF : Hid (decide (l = k) = false) := by
      show _ = _
      refine decide_eq_false fun hlk => hnm ?_
      rw [← HL1.out, ← HL2.out, hlk]
    clear h1 h2
    go_enter Try.func47, Try.ntmps47
    go_wp2_with fail
    go_ret
    exact ⟨by rw [HF.out]; rfl, Below.refl _ _⟩

/-- bytes in memory of the call's own, that an append may go on behind -/
structure Spare (w : World) (base : Nat) (A : Option Addr) (n c : Nat) (l : List UInt8) : Prop where
  is_ : IsB w A n c l
  most : c ≤ maxLen
  at_ : (A = none ∧ c = 0) ∨ ∃ g, A = some ⟨g, 0, none⟩ ∧ base ≤ g ∧ g < w.heap.size ∧ ∀ j, n ≤ j → j < c → (w.cell? ⟨g, j, none⟩).isSome = true ∧ w.frozen? ⟨g, j, none⟩ = false
theorem byteCells_map (s : ByteArray) {l : List UInt8} (hs : s = ⟨l.toArray⟩) : (s.data.map fun b => Value.int .u8 (b.toNat : Int)) = (byteCells l).toArray := by
  subst hs
  simp [byteCells]
set_option maxRecDepth 100000 in
theorem copybytes_any {w : World} {A : Option Addr} {n c : Nat} {l : List UInt8} (h : IsB w A n c l) (hn : n ≤ 1000000) :
    Calls Try.prog 26 #[.slice A n c] w fun e w' => ∃ B c', e = .returned (.slice B n c') ∧ Spare w' w.heap.size B n c' l ∧ Below w.heap.size w w' := by
  obtain ⟨s, hs⟩ : ∃ s : ByteArray, s = ⟨l.toArray⟩ := ⟨_, rfl⟩
  have f1 := conv_str w h hs
  have hl := h.len
  have hss : s.size = n := by rw [hs]; simpa [ByteArray.size] using h.len
  have f2 := Lib.run_convert_string_bytes (P := Try.prog) w 9 26 5 s Try.underlying9 Try.underlying26 Try.underlying5
  have hnew := Lib.bytesWorld_at_new w 5 s
  have hB : Below w.heap.size w (Lib.bytesWorld w 5 s) := ⟨rfl, rfl, rfl, by rw [Lib.bytesWorld_size]; omega, fun b hb => Lib.bytesWorld_at_old w _ s b hb⟩
  have hsz := Lib.bytesWorld_size w 5 s
  have hcg := grownCap_ge w s.size 0 5
  have hcm := grownCap_le_maxLen w s.size 0 5 (by unfold maxLen; omega)
  have hcs : (Lib.bytesCells w 5 s).size = grownCap w s.size 0 5 := by
    have : s.data.size = s.size := rfl
    simp [Lib.bytesCells, this]; omega
  have hcell := Lib.bytesWorld_cell w 5 s
  rw [hss] at f2 hcg hcm hcs hcell
  generalize hW : Lib.bytesWorld w 5 s = W at f2 hnew hB hsz hcell
  generalize Lib.bytesCells w 5 s = cs at hnew hcs
  generalize grownCap w n 0 5 = c' at f2 hcg hcm hcs
  have hSp : Spare W w.heap.size (some ⟨w.heap.size, 0, none⟩) n c' l := by
    refine ⟨⟨hl, hcg, (fun e => by cases e), .inr ⟨_, 0, rfl, fun j u hj => ?_⟩⟩, hcm, .inr ⟨_, rfl, Nat.le_refl _, by omega, fun j hj hjc => ⟨?_, ?_⟩⟩⟩
    · have hj' := (List.getElem?_eq_some_iff.1 hj).1
      rw [Nat.zero_add, hcell j (by omega), hs]
      simp [List.getD, hj]
    · rw [cell_of_row _ _ _ _ _ _ hnew, Array.getElem?_eq_getElem (by omega)]
      rfl
    · simp only [World.frozen?, hnew, Bool.and_eq_false_iff, decide_eq_false_iff_not]
      left; omega
  have HSp := Lib.hid hSp
  have HB := Lib.hid hB
  clear h hs hW hnew hB hsz hcell hcs hcg hcm hSp
  go_enter Try.func26, Try.ntmps26
  go_wp2_with fail
  go_ret
  exact ⟨_, _, rfl, HSp.out, HB.out⟩
set_option maxRecDepth 100000 in
theorem pick_any (x : Int) (n : Nat) (w : World) (hn : n ≤ 1000000000) (hx : In64 x) :
    Calls Try.prog 25 #[.int .i64 x, .int .i64 (n : Int)] w fun e w' => e = .returned (.int .i64 (pickOf x n : Int)) ∧ w = w' := by
  by_cases h2 : n < 2
  · have hd : decide ((n : Int) < 2) = true := by simp; omega
    have hp : pickOf x n = 0 := by unfold pickOf; rw [if_pos h2]
    rw [hp]
    go_enter Try.func25, Try.ntmps25
    go_wp2_with fail
    go_ret
    exact ⟨rfl, rfl⟩
  · have hd : decide ((n : Int) < 2) = false := by simp; omega
    have hnz : ((n : Int) == 0) = false := by simp; omega
    have hq : (wrap64 (x.tmod (n : Int) + (n : Int))).tmod (n : Int) = (pickOf x n : Int) := by
      unfold In64 at hx
      have h1 := Int.tmod_lt_of_pos x (show (0 : Int) < (n : Int) by omega)
      have h0 : -(n : Int) < x.tmod (n : Int) := by
        by_cases hp : 0 ≤ x
        · have := Int.tmod_nonneg (n : Int) hp; omega
        · have h3 := Int.tmod_lt_of_pos (-x) (show (0 : Int) < (n : Int) by omega)
          rw [Int.neg_tmod] at h3
          omega
      have hw : wrap64 (x.tmod (n : Int) + (n : Int)) = x.tmod (n : Int) + (n : Int) := by unfold wrap64; omega
      rw [hw, Int.tmod_eq_emod_of_nonneg (by omega)]
      unfold pickOf
      rw [if_neg h2]
      have he := Int.emod_nonneg x (show (n : Int) ≠ 0 by omega)
      have : (x.tmod (n : Int) + (n : Int)) % (n : Int) = x % (n : Int) := by
        rw [Int.add_emod_right]
        have hd := Int.tmod_add_mul_tdiv x (n : Int)
        conv => rhs; rw [← hd]
        rw [Int.add_mul_emod_self_left]
      rw [this]
      omega
    go_enter Try.func25, Try.ntmps25
    go_wp2_with fail
    refine bodyPost_ret (v := .int .i64 (pickOf x n : Int)) (by simp [results, Try.results25, go_sem, hq]) rfl ⟨rfl, rfl⟩
end Go.Proofs.Ytiockkphciadeaa
