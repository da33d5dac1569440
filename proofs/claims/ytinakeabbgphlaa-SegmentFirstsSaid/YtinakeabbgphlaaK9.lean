/-
  Head, Pack, Scan and Unpack as the statements meet them.
-/
import Derived.Test.YtinakeabbgphlaaKSgAwake
set_option linter.unusedVariables false
set_option linter.unusedSimpArgs false
namespace Go.Proofs.Ytinakeabbgphlaa
open Go.RowKit
open Go.Lib (byteCells byteCells_length byteCells_append uvarint)

theorem Head_is (first : Nat) (w : World) (hf : first ≤ 4611686018427387904) :
    Calls Try.prog 29 #[.int .i64 (first : Int)] w fun e w' => ∃ A m c, e = .returned (.tuple #[.slice A m c, .int .i64 0]) ∧ IsB w' A m c (headOf first) ∧ Below w.heap.size w w' := by
  refine (Head_any first w hf).mono ?_
  rintro e w' ⟨v, rfl, ho, hb⟩
  obtain ⟨A, m, c, rfl, hI⟩ := own_slice ho
  exact ⟨A, m, c, rfl, hI, hb⟩
theorem Pack_is (first : Nat) (A : Option Addr) (n c : Nat) (es : List Ev) (w : World) (h : IsEv w A n c es) (h1 : 1 ≤ n) (hn : n ≤ 1048576) (hok : ∀ x ∈ es, x.ok) (hf : first ≤ 4611686018427387904) :
    Calls Try.prog 35 #[.int .i64 (first : Int), .slice A n c] w fun e w' => ∃ A' m c', e = .returned (.tuple #[.slice A' m c', .int .i64 0]) ∧ IsB w' A' m c' (sealed (denseOf first es)) ∧ Below w.heap.size w w' := by
  refine (Pack_any first A n c es w h h1 hn hok hf).mono ?_
  rintro e w' ⟨v, rfl, ho, hb⟩
  obtain ⟨A', m, c', rfl, hI⟩ := own_slice ho
  exact ⟨A', m, c', rfl, hI, hb⟩
theorem Scan_is {w : World} {A : Option Addr} {n c f k : Nat} {l : List UInt8} {es : List Ev} (h : IsB w A n c l) (hn : n ≤ 1000000) (hs : scanOf l = (f, es, k, 0)) :
    Calls Try.prog 31 #[.slice A n c] w fun e w' => ∃ B b d, e = .returned (.tuple #[.int .i64 (f : Int), .slice B b d, .int .i64 (k : Int), .int .i64 0]) ∧ IsEv w' B b d es ∧ Below w.heap.size w w' := by
  refine (Scan_any A n c l w h hn).mono ?_
  rintro e w' ⟨⟨v, rfl, hO⟩, hb⟩
  rw [hs] at hO ⊢
  obtain ⟨B, b, d, rfl, hI, -, -⟩ := hO.is_
  exact ⟨B, b, d, rfl, hI, hb⟩
theorem Unpack_is {w : World} {A : Option Addr} {n c f : Nat} {l : List UInt8} {es : List Ev} (h : IsB w A n c l) (hn : n ≤ 1000000) (hs : unpackOf l = (f, es, 0)) :
    Calls Try.prog 36 #[.slice A n c] w fun e w' => ∃ B b d, e = .returned (.tuple #[.int .i64 (f : Int), .slice B b d, .int .i64 0]) ∧ IsEv w' B b d es ∧ Below w.heap.size w w' := by
  refine (Unpack_any A n c l w h hn).mono ?_
  rintro e w' ⟨⟨v, rfl, hO⟩, hb⟩
  rw [hs] at hO ⊢
  obtain ⟨B, b, d, rfl, hI, -, -⟩ := hO.is_
  exact ⟨B, b, d, rfl, hI, hb⟩
theorem scan_head (f : Nat) (hf : f ≤ 4611686018427387904) : scanOf (headOf f) = (f, [], (headOf f).length, 0) := by
  have h := scanOf_seg (l := headOf f) (r := []) (first := f) (fs := []) hf (fun f hf => by cases hf) (by simp [framesOf]) (rd_end (by show (headOf f).length ≤ (headOf f).length + 0; omega))
  rw [h]
  rfl
theorem cols_small (es : List Ev) (h : es.length ≤ 1048576) : ∀ k, (colsTo es k).length ≤ 20 * es.length * k
  | 0 => by simp [colsTo]
  | k + 1 => by
    have h1 := cols_small es h k
    have h2 := numsBytes_most (es.map (colGet k)) (by rw [List.length_map]; exact h)
    rw [List.length_map] at h2
    show (colsTo es k ++ _).length ≤ _
    rw [List.length_append, Nat.mul_add]
    omega
theorem dense_most (f : Nat) (es : List Ev) (h : es.length ≤ 300) (hf : f ≤ 4611686018427387904) : (sealed (denseOf f es)).length ≤ 40000 := by
  have h1 := cols_small es (by omega) 5
  have h2 := Lib.uvarint_length64 (x := f) (by omega)
  have h3 := Lib.uvarint_length64 (x := es.length) (by omega)
  have h4 := beginOf_length (mark := denseMark) rfl f
  unfold sealed denseOf
  rw [List.length_append, List.length_append, List.length_append, sumBytes_length]
  omega
theorem denseOf_inj {a b : Nat} {l m : List Ev} (ha : a ≤ 4611686018427387904) (hb : b ≤ 4611686018427387904) (h : denseOf a l = denseOf b m) : a = b := by
  unfold denseOf beginOf at h
  rw [List.append_assoc, List.append_assoc] at h
  exact (uvarint_front (by omega) (by omega) (List.append_cancel_left h)).1
end Go.Proofs.Ytinakeabbgphlaa

/-
  SegmentBorder: the number first goes to 2^62, and no further.
-/
set_option linter.unusedVariables false
set_option linter.unusedSimpArgs false
namespace Go.Proofs.Ytinakeabbgphlaa
open Go.RowKit
open Go.Lib (byteCells byteCells_length byteCells_append uvarint)

set_option maxRecDepth 100000 in
set_option maxHeartbeats 4000000 in
theorem border_walk (x : Int) (A : Option Addr) (n c : Nat) (es : List Ev) (w : World) (hE : IsEv w A n c es) (hok : ∀ e ∈ es, e.ok) (hx : In64 x) (hn : n ≤ maxLen) :
    Calls Try.prog 13 #[.int .i64 x, .slice A n c] w fun e w' => e = .returned (.bool true) ∧ Below w.heap.size w w' := by
  unfold maxLen at hn
  by_cases h0 : n = 0
  · have d0 : ((n : Int) == 0) = true := by rw [h0]; rfl
    clear hE
    go_enter Try.func13, Try.ntmps13
    go_wp2_with fail
    refine (awake4_any _).mono ?_
    rintro e w9 ⟨rfl, hb9⟩
    go_wp2_with fail
    go_ret
    exact ⟨rfl, hb9⟩
  have d0 : ((n : Int) == 0) = false := beq_eq_false_iff_ne.2 (by omega)
  by_cases h50 : 50 < n
  · have d1 : decide ((50 : Int) < (n : Int)) = true := decide_eq_true (by omega)
    clear hE
    go_enter Try.func13, Try.ntmps13
    go_wp2_with fail
    refine (awake4_any _).mono ?_
    rintro e w9 ⟨rfl, hb9⟩
    go_wp2_with fail
    go_ret
    exact ⟨rfl, hb9⟩
  have d1 : decide ((50 : Int) < (n : Int)) = false := decide_eq_false (by omega)
  by_cases hmay : 0 ≤ x ∧ x ≤ 4611686018427387904
  · obtain ⟨f, rfl⟩ : ∃ f : Nat, x = (f : Int) := ⟨x.toNat, by omega⟩
    have hf : f ≤ 4611686018427387904 := by omega
    have d2 : decide ((0 : Int) ≤ (f : Int)) = true := decide_eq_true (by omega)
    have d3 : decide ((f : Int) ≤ 4611686018427387904) = true := decide_eq_true (by omega)
    have hlen := hE.len
    have HH := Lib.hid (Head_is f w hf)
    have HE := Lib.hid hE
    have HOK := Lib.hid hok
    have HLEN := Lib.hid hlen
    clear hE hok hlen
    go_enter Try.func13, Try.ntmps13
    go_wp2_with fail
    refine HH.out.mono ?_
    rintro e w1 ⟨A1, m1, c1, rfl, hI1, hb1⟩
    have HP := Lib.hid (Pack_is f A n c es w1 (HE.out.below hb1) (by omega) (by omega) HOK.out hf)
    have HI1 := Lib.hid hI1
    have HB1 := Lib.hid hb1
    clear hI1 hb1 HH
    go_wp2_with fail
    refine HP.out.mono ?_
    rintro e w2 ⟨A2, m2, c2, rfl, hI2, hb2⟩
    have hB2 := HB1.out.trans (hb2.mono HB1.out.size)
    have hI12 := HI1.out.below hb2
    have hm1 := hI12.len
    have hm2 := hI2.len
    have hh := headOf_most (first := f) (by omega)
    have hdm := dense_most f es (by rw [HLEN.out]; omega) hf
    have hS := Scan_is hI12 (by omega) (scan_head f hf)
    have HS := Lib.hid hS
    have HI2 := Lib.hid hI2
    have HB2 := Lib.hid hB2
    have HM1 := Lib.hid hm1
    have hm2' : m2 ≤ 1000000 := by omega
    clear hI2 hb2 hB2 hI12 hS hm1 hm2 hh hdm HP
    go_wp2_with fail
    refine HS.out.mono ?_
    rintro e w3 ⟨B3, b3, d3', rfl, hE3, hb3⟩
    obtain rfl : b3 = 0 := hE3.len.symm
    have HU := Lib.hid (Unpack_is (HI2.out.below hb3) hm2' (unpackOf_pack hf (by rw [HLEN.out]; omega) (by rw [HLEN.out]; omega) HOK.out))
    have HB3 := Lib.hid (HB2.out.trans (hb3.mono HB2.out.size))
    clear hE3 hb3 HS
    go_wp2_with fail
    refine HU.out.mono ?_
    rintro e w4 ⟨B4, b4, d4', rfl, hE4, hb4⟩
    have hB4 := HB3.out.trans (hb4.mono HB3.out.size)
    have hb4l := hE4.len
    have HSE := Lib.hid (same_evs hE4 (HE.out.below hB4) (by rw [← hb4l, HLEN.out]; omega) (by omega))
    have HB4 := Lib.hid hB4
    have hk : (((headOf f).length : Int) == (m1 : Int)) = true := by rw [HM1.out]; simp
    clear hE4 hb4 hB4 hb4l HU
    go_wp2_with fail
    refine HSE.out.mono ?_
    rintro e w5 ⟨rfl, hb5⟩
    have HB5 := Lib.hid (HB4.out.trans (hb5.mono HB4.out.size))
    clear hb5 HSE
    go_wp2_with fail
    refine (awake4_any _).mono ?_
    rintro e w9 ⟨rfl, hb9⟩
    go_wp2_with fail
    go_ret
    exact ⟨rfl, HB5.out.trans (hb9.mono HB5.out.size)⟩
  · have hbad : x < 0 ∨ 4611686018427387904 < x := by omega
    have HH := Lib.hid (Head_no x w hbad)
    have HP := Lib.hid (Pack_no x A n c w hbad)
    clear hE
    by_cases hneg : x < 0
    · have d2 : decide ((0 : Int) ≤ x) = false := decide_eq_false (by omega)
      clear hbad hmay hneg
      go_enter Try.func13, Try.ntmps13
      go_wp2_with fail
      refine HH.out.mono ?_
      rintro e w1 ⟨rfl, rfl⟩
      go_wp2_with fail
      refine HP.out.mono ?_
      rintro e w1 ⟨rfl, rfl⟩
      go_wp2_with fail
      refine (awake4_any _).mono ?_
      rintro e w9 ⟨rfl, hb9⟩
      go_wp2_with fail
      go_ret
      exact ⟨rfl, hb9⟩
    · have d2 : decide ((0 : Int) ≤ x) = true := decide_eq_true (by omega)
      have d3 : decide (x ≤ 4611686018427387904) = false := decide_eq_false (by omega)
      clear hbad hmay hneg
      go_enter Try.func13, Try.ntmps13
      go_wp2_with fail
      refine HH.out.mono ?_
      rintro e w1 ⟨rfl, rfl⟩
      go_wp2_with fail
      refine HP.out.mono ?_
      rintro e w1 ⟨rfl, rfl⟩
      go_wp2_with fail
      refine (awake4_any _).mono ?_
      rintro e w9 ⟨rfl, hb9⟩
      go_wp2_with fail
      go_ret
      exact ⟨rfl, hb9⟩
end Go.Proofs.Ytinakeabbgphlaa

/-
  SegmentFirsts: the number first changes what is told of first alone.
-/
set_option linter.unusedVariables false
set_option linter.unusedSimpArgs false
namespace Go.Proofs.Ytinakeabbgphlaa
open Go.RowKit
open Go.Lib (byteCells byteCells_length byteCells_append uvarint)

theorem same_bool {w : World} {A : Option Addr} {n c : Nat} {l : List UInt8} {B : Option Addr} {m d : Nat} {k : List UInt8} {t : Bool} (h1 : IsB w A n c l) (h2 : IsB w B m d k) (ht : decide (l = k) = t) :
    Calls Try.prog 16 #[.slice A n c, .slice B m d] w fun e w' => e = .returned (.bool t) ∧ w = w' := by
  have := samebytes_any h1 h2
  rwa [ht] at this
set_option maxRecDepth 100000 in
set_option maxHeartbeats 4000000 in
theorem firsts_walk (a b : Nat) (A : Option Addr) (n c : Nat) (es : List Ev) (w : World) (hE : IsEv w A n c es) (hok : ∀ e ∈ es, e.ok) (ha : a < 4294967296) (hb : b < 4294967296) (hn : n ≤ maxLen) :
    Calls Try.prog 11 #[.int .u32 (a : Int), .int .u32 (b : Int), .slice A n c] w fun e w' => e = .returned (.bool true) ∧ Below w.heap.size w w' := by
  unfold maxLen at hn
  by_cases h0 : n = 0
  · have d0 : ((n : Int) == 0) = true := by rw [h0]; rfl
    clear hE
    go_enter Try.func11, Try.ntmps11
    go_wp2_with fail
    refine (awake4_any _).mono ?_
    rintro e w9 ⟨rfl, hb9⟩
    go_wp2_with fail
    go_ret
    exact ⟨rfl, hb9⟩
  have d0 : ((n : Int) == 0) = false := beq_eq_false_iff_ne.2 (by omega)
  by_cases h50 : 100 < n
  · have d1 : decide ((100 : Int) < (n : Int)) = true := decide_eq_true (by omega)
    clear hE
    go_enter Try.func11, Try.ntmps11
    go_wp2_with fail
    refine (awake4_any _).mono ?_
    rintro e w9 ⟨rfl, hb9⟩
    go_wp2_with fail
    go_ret
    exact ⟨rfl, hb9⟩
  have d1 : decide ((100 : Int) < (n : Int)) = false := decide_eq_false (by omega)
  have hlen := hE.len
  have ea := nat_i64 a (by omega)
  have eb := nat_i64 b (by omega)
  obtain ⟨t, ht, htd⟩ : ∃ t : Bool, ((a : Int) == (b : Int)) = t ∧ Hid (t = decide (a = b)) := ⟨_, rfl, by
    show _ = _
    by_cases h : a = b
    · subst h; simp
    · rw [decide_eq_false h]; exact beq_eq_false_iff_ne.2 (by omega)⟩
  have htt : (t == t) = true := by simp
  have hdh : decide (headOf a = headOf b) = t := by
    rw [htd.out]
    by_cases h : a = b
    · subst h; simp
    · rw [decide_eq_false h, decide_eq_false fun e => h (headOf_inj (by omega) (by omega) e)]
  have hdp : decide (sealed (denseOf a es) = sealed (denseOf b es)) = t := by
    rw [htd.out]
    by_cases h : a = b
    · subst h; simp
    · rw [decide_eq_false h, decide_eq_false fun e => h (denseOf_inj (by omega) (by omega) (sealed_inj e))]
  have HDH := Lib.hid hdh
  have HDP := Lib.hid hdp
  have HHa := Lib.hid (Head_is a w (by omega))
  have HE := Lib.hid hE
  have HOK := Lib.hid hok
  have HLEN := Lib.hid hlen
  have hqa : ((a : Int) != (a : Int)) = false := by simp
  have hqb : ((b : Int) != (b : Int)) = false := by simp
  have hqe : ((a : Int) == (a : Int)) = true := by simp
  clear hE hok hlen hdh hdp
  go_enter Try.func11, Try.ntmps11
  go_wp2_with fail
  refine HHa.out.mono ?_
  rintro e w1 ⟨A1, m1, c1, rfl, hI1, hb1⟩
  have HHb := Lib.hid (Head_is b w1 (by omega))
  have HI1 := Lib.hid hI1
  have HB1 := Lib.hid hb1
  clear hI1 hb1 HHa
  go_wp2_with fail
  refine HHb.out.mono ?_
  rintro e w2 ⟨A2, m2, c2, rfl, hI2, hb2⟩
  have HB2 := Lib.hid (HB1.out.trans (hb2.mono HB1.out.size))
  have HI1 := Lib.hid (HI1.out.below hb2)
  have HI2 := Lib.hid hI2
  have HPa := Lib.hid (Pack_is a A n c es w2 (HE.out.below HB2.out) (by omega) (by omega) HOK.out (by omega))
  clear hI2 hb2 HHb
  go_wp2_with fail
  refine HPa.out.mono ?_
  rintro e w3 ⟨A3, m3, c3, rfl, hI3, hb3⟩
  have HB3 := Lib.hid (HB2.out.trans (hb3.mono HB2.out.size))
  have HI1 := Lib.hid (HI1.out.below hb3)
  have HI2 := Lib.hid (HI2.out.below hb3)
  have HI3 := Lib.hid hI3
  have HPb := Lib.hid (Pack_is b A n c es w3 (HE.out.below HB3.out) (by omega) (by omega) HOK.out (by omega))
  clear hI3 hb3 HPa
  go_wp2_with fail
  refine HPb.out.mono ?_
  rintro e w4 ⟨A4, m4, c4, rfl, hI4, hb4⟩
  have HB4 := Lib.hid (HB3.out.trans (hb4.mono HB3.out.size))
  have HI1 := Lib.hid (HI1.out.below hb4)
  have HI2 := Lib.hid (HI2.out.below hb4)
  have HI3 := Lib.hid (HI3.out.below hb4)
  have HI4 := Lib.hid hI4
  have hl3 := HI3.out.len
  have hl4 := hI4.len
  have hda := dense_most a es (by rw [HLEN.out]; omega) (by omega)
  have hdb := dense_most b es (by rw [HLEN.out]; omega) (by omega)
  have hm3 : m3 ≤ 1000000 := by omega
  have hm4 : m4 ≤ 1000000 := by omega
  have HUa := Lib.hid (Unpack_is HI3.out hm3 (unpackOf_pack (first := a) (by omega) (by rw [HLEN.out]; omega) (by rw [HLEN.out]; omega) HOK.out))
  clear hI4 hb4 HPb hl3 hl4 hda hdb
  go_wp2_with fail
  refine HUa.out.mono ?_
  rintro e w5 ⟨B5, b5, d5, rfl, hE5, hb5⟩
  have HB5 := Lib.hid (HB4.out.trans (hb5.mono HB4.out.size))
  have HI1 := Lib.hid (HI1.out.below hb5)
  have HI2 := Lib.hid (HI2.out.below hb5)
  have HI3 := Lib.hid (HI3.out.below hb5)
  have HI4 := Lib.hid (HI4.out.below hb5)
  have HE5 := Lib.hid hE5
  have hl5 := hE5.len
  have HUb := Lib.hid (Unpack_is HI4.out hm4 (unpackOf_pack (first := b) (by omega) (by rw [HLEN.out]; omega) (by rw [HLEN.out]; omega) HOK.out))
  have hb5m : b5 ≤ 1000000 := by rw [← hl5, HLEN.out]; omega
  clear hE5 hb5 HUa hl5
  go_wp2_with fail
  refine HUb.out.mono ?_
  rintro e w6 ⟨B6, b6, d6, rfl, hE6, hb6⟩
  have HB6 := Lib.hid (HB5.out.trans (hb6.mono HB5.out.size))
  have HI1 := Lib.hid (HI1.out.below hb6)
  have HI2 := Lib.hid (HI2.out.below hb6)
  have HI3 := Lib.hid (HI3.out.below hb6)
  have HI4 := Lib.hid (HI4.out.below hb6)
  have HE5 := Lib.hid (HE5.out.below hb6)
  have HE6 := Lib.hid hE6
  have hl6 := hE6.len
  have hb6m : b6 ≤ 1000000 := by rw [← hl6, HLEN.out]; omega
  have HS1 := Lib.hid (same_evs HE5.out (HE.out.below HB6.out) hb5m (by omega))
  clear hE6 hb6 HUb hl6
  go_wp2_with fail
  refine HS1.out.mono ?_
  rintro e w7 ⟨rfl, hb7⟩
  have HB7 := Lib.hid (HB6.out.trans (hb7.mono HB6.out.size))
  have HI1 := Lib.hid (HI1.out.below hb7)
  have HI2 := Lib.hid (HI2.out.below hb7)
  have HI3 := Lib.hid (HI3.out.below hb7)
  have HI4 := Lib.hid (HI4.out.below hb7)
  have HS2 := Lib.hid (same_evs (HE6.out.below hb7) (HE.out.below HB7.out) hb6m (by omega))
  clear hb7 HS1 HE5 HE6
  go_wp2_with fail
  refine HS2.out.mono ?_
  rintro e w8 ⟨rfl, hb8⟩
  have HB8 := Lib.hid (HB7.out.trans (hb8.mono HB7.out.size))
  have HI1 := Lib.hid (HI1.out.below hb8)
  have HI2 := Lib.hid (HI2.out.below hb8)
  have HI3 := Lib.hid (HI3.out.below hb8)
  have HI4 := Lib.hid (HI4.out.below hb8)
  have hl1 := HI1.out.len
  have hh := headOf_most (first := a) (by omega)
  have HSc := Lib.hid (Scan_is HI1.out (by omega) (scan_head a (by omega)))
  have hk : (((headOf a).length : Int) == (m1 : Int)) = true := by rw [hl1]; simp
  clear hb8 HS2 hl1 hh
  go_wp2_with fail
  refine HSc.out.mono ?_
  rintro e w9 ⟨B9, b9, d9, rfl, hE9, hb9⟩
  have HB9 := Lib.hid (HB8.out.trans (hb9.mono HB8.out.size))
  have HY1 := Lib.hid (same_bool (HI1.out.below hb9) (HI2.out.below hb9) HDH.out)
  have HY2 := Lib.hid (same_bool (HI3.out.below hb9) (HI4.out.below hb9) HDP.out)
  clear hE9 hb9 HSc
  go_wp2_with fail
  refine HY1.out.mono ?_
  rintro e w10 ⟨rfl, rfl⟩
  go_wp2_with fail
  refine HY2.out.mono ?_
  rintro e w10 ⟨rfl, rfl⟩
  go_wp2_with fail
  refine (awake4_any _).mono ?_
  rintro e w11 ⟨rfl, hb11⟩
  go_wp2_with fail
  go_ret
  exact ⟨rfl, HB9.out.trans (hb11.mono HB9.out.size)⟩
end Go.Proofs.Ytinakeabbgphlaa
