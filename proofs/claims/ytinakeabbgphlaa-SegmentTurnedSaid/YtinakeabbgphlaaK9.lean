/-
  Head, Pack, Scan and Unpack as the statements meet them.
-/
import Derived.Test.YtinakeabbgphlaaKSgAwake
import Derived.Test.YtinakeabbgphlaaK5
set_option linter.unusedVariables false
set_option linter.unusedSimpArgs false
namespace Go.Proofs.Ytinakeabbgphlaa
open Go.RowKit
open Go.Lib (byteCells byteCells_length byteCells_append uvarint)

theorem Head_is (first : Nat) (w : World) (hf : first ≤ 4611686018427387904) :
    Calls Try.prog 29 #[.int .i64 (first : Int)] w fun e w' => ∃ A m c, e = .returned (.tuple #[.slice A m c, .int .i64 0]) ∧ IsB w' A m c (headOf first) ∧ Below w.heap.size w w' := by
  refine (Head_any first w hf).mono ?_
  rintro e w' ⟨v, rfl, ho, hb⟩
  obtain ⟨A, m, c, rfl, hI⟩ := own_slice ho
  exact ⟨A, m, c, rfl, hI, hb⟩
theorem Pack_is (first : Nat) (A : Option Addr) (n c : Nat) (es : List Ev) (w : World) (h : IsEv w A n c es) (h1 : 1 ≤ n) (hn : n ≤ 1048576) (hok : ∀ x ∈ es, x.ok) (hf : first ≤ 4611686018427387904) :
    Calls Try.prog 35 #[.int .i64 (first : Int), .slice A n c] w fun e w' => ∃ A' m c', e = .returned (.tuple #[.slice A' m c', .int .i64 0]) ∧ IsB w' A' m c' (sealed (denseOf first es)) ∧ Below w.heap.size w w' := by
  refine (Pack_any first A n c es w h h1 hn hok hf).mono ?_
  rintro e w' ⟨v, rfl, ho, hb⟩
  obtain ⟨A', m, c', rfl, hI⟩ := own_slice ho
  exact ⟨A', m, c', rfl, hI, hb⟩
theorem Scan_is {w : World} {A : Option Addr} {n c f k : Nat} {l : List UInt8} {es : List Ev} (h : IsB w A n c l) (hn : n ≤ 1000000) (hs : scanOf l = (f, es, k, 0)) :
    Calls Try.prog 31 #[.slice A n c] w fun e w' => ∃ B b d, e = .returned (.tuple #[.int .i64 (f : Int), .slice B b d, .int .i64 (k : Int), .int .i64 0]) ∧ IsEv w' B b d es ∧ Below w.heap.size w w' := by
  refine (Scan_any A n c l w h hn).mono ?_
  rintro e w' ⟨⟨v, rfl, hO⟩, hb⟩
  rw [hs] at hO ⊢
  obtain ⟨B, b, d, rfl, hI, -, -⟩ := hO.is_
  exact ⟨B, b, d, rfl, hI, hb⟩
theorem Unpack_is {w : World} {A : Option Addr} {n c f : Nat} {l : List UInt8} {es : List Ev} (h : IsB w A n c l) (hn : n ≤ 1000000) (hs : unpackOf l = (f, es, 0)) :
    Calls Try.prog 36 #[.slice A n c] w fun e w' => ∃ B b d, e = .returned (.tuple #[.int .i64 (f : Int), .slice B b d, .int .i64 0]) ∧ IsEv w' B b d es ∧ Below w.heap.size w w' := by
  refine (Unpack_any A n c l w h hn).mono ?_
  rintro e w' ⟨⟨v, rfl, hO⟩, hb⟩
  rw [hs] at hO ⊢
  obtain ⟨B, b, d, rfl, hI, -, -⟩ := hO.is_
  exact ⟨B, b, d, rfl, hI, hb⟩
theorem scan_head (f : Nat) (hf : f ≤ 4611686018427387904) : scanOf (headOf f) = (f, [], (headOf f).length, 0) := by
  have h := scanOf_seg (l := headOf f) (r := []) (first := f) (fs := []) hf (fun f hf => by cases hf) (by simp [framesOf]) (rd_end (by show (headOf f).length ≤ (headOf f).length + 0; omega))
  rw [h]
  rfl
theorem cols_small (es : List Ev) (h : es.length ≤ 1048576) : ∀ k, (colsTo es k).length ≤ 20 * es.length * k
  | 0 => by simp [colsTo]
  | k + 1 => by
    have h1 := cols_small es h k
    have h2 := numsBytes_most (es.map (colGet k)) (by rw [List.length_map]; exact h)
    rw [List.length_map] at h2
    show (colsTo es k ++ _).length ≤ _
    rw [List.length_append, Nat.mul_add]
    omega
theorem dense_most (f : Nat) (es : List Ev) (h : es.length ≤ 300) (hf : f ≤ 4611686018427387904) : (sealed (denseOf f es)).length ≤ 40000 := by
  have h1 := cols_small es (by omega) 5
  have h2 := Lib.uvarint_length64 (x := f) (by omega)
  have h3 := Lib.uvarint_length64 (x := es.length) (by omega)
  have h4 := beginOf_length (mark := denseMark) rfl f
  unfold sealed denseOf
  rw [List.length_append, List.length_append, List.length_append, sumBytes_length]
  omega
theorem denseOf_inj {a b : Nat} {l m : List Ev} (ha : a ≤ 4611686018427387904) (hb : b ≤ 4611686018427387904) (h : denseOf a l = denseOf b m) : a = b := by
  unfold denseOf beginOf at h
  rw [List.append_assoc, List.append_assoc] at h
  exact (uvarint_front (by omega) (by omega) (List.append_cancel_left h)).1
end Go.Proofs.Ytinakeabbgphlaa

/-
  SegmentBorder: the number first goes to 2^62, and no further.
-/
set_option linter.unusedVariables false
set_option linter.unusedSimpArgs false
namespace Go.Proofs.Ytinakeabbgphlaa
open Go.RowKit
open Go.Lib (byteCells byteCells_length byteCells_append uvarint)

set_option maxRecDepth 100000 in
set_option maxHeartbeats 4000000 in
theorem border_walk (x : Int) (A : Option Addr) (n c : Nat) (es : List Ev) (w : World) (hE : IsEv w A n c es) (hok : ∀ e ∈ es, e.ok) (hx : In64 x) (hn : n ≤ maxLen) :
    Calls Try.prog 13 #[.int .i64 x, .slice A n c] w fun e w' => e = .returned (.bool true) ∧ Below w.heap.size w w' := by
  unfold maxLen at hn
  by_cases h0 : n = 0
  · have d0 : ((n : Int) == 0) = true := by rw [h0]; rfl
    clear hE
    go_enter Try.func13, Try.ntmps13
    go_wp2_with fail
    refine (awake4_any _).mono ?_
    rintro e w9 ⟨rfl, hb9⟩
    go_wp2_with fail
    go_ret
    exact ⟨rfl, hb9⟩
  have d0 : ((n : Int) == 0) = false := beq_eq_false_iff_ne.2 (by omega)
  by_cases h50 : 50 < n
  · have d1 : decide ((50 : Int) < (n : Int)) = true := decide_eq_true (by omega)
    clear hE
    go_enter Try.func13, Try.ntmps13
    go_wp2_with fail
    refine (awake4_any _).mono ?_
    rintro e w9 ⟨rfl, hb9⟩
    go_wp2_with fail
    go_ret
    exact ⟨rfl, hb9⟩
  have d1 : decide ((50 : Int) < (n : Int)) = false := decide_eq_false (by omega)
  by_cases hmay : 0 ≤ x ∧ x ≤ 4611686018427387904
  · obtain ⟨f, rfl⟩ : ∃ f : Nat, x = (f : Int) := ⟨x.toNat, by omega⟩
    have hf : f ≤ 4611686018427387904 := by omega
    have d2 : decide ((0 : Int) ≤ (f : Int)) = true := decide_eq_true (by omega)
    have d3 : decide ((f : Int) ≤ 4611686018427387904) = true := decide_eq_true (by omega)
    have hlen := hE.len
    have HH := Lib.hid (Head_is f w hf)
    have HE := Lib.hid hE
    have HOK := Lib.hid hok
    have HLEN := Lib.hid hlen
    clear hE hok hlen
    go_enter Try.func13, Try.ntmps13
    go_wp2_with fail
    refine HH.out.mono ?_
    rintro e w1 ⟨A1, m1, c1, rfl, hI1, hb1⟩
    have HP := Lib.hid (Pack_is f A n c es w1 (HE.out.below hb1) (by omega) (by omega) HOK.out hf)
    have HI1 := Lib.hid hI1
    have HB1 := Lib.hid hb1
    clear hI1 hb1 HH
    go_wp2_with fail
    refine HP.out.mono ?_
    rintro e w2 ⟨A2, m2, c2, rfl, hI2, hb2⟩
    have hB2 := HB1.out.trans (hb2.mono HB1.out.size)
    have hI12 := HI1.out.below hb2
    have hm1 := hI12.len
    have hm2 := hI2.len
    have hh := headOf_most (first := f) (by omega)
    have hdm := dense_most f es (by rw [HLEN.out]; omega) hf
    have hS := Scan_is hI12 (by omega) (scan_head f hf)
    have HS := Lib.hid hS
    have HI2 := Lib.hid hI2
    have HB2 := Lib.hid hB2
    have HM1 := Lib.hid hm1
    have hm2' : m2 ≤ 1000000 := by omega
    clear hI2 hb2 hB2 hI12 hS hm1 hm2 hh hdm HP
    go_wp2_with fail
    refine HS.out.mono ?_
    rintro e w3 ⟨B3, b3, d3', rfl, hE3, hb3⟩
    obtain rfl : b3 = 0 := hE3.len.symm
    have HU := Lib.hid (Unpack_is (HI2.out.below hb3) hm2' (unpackOf_pack hf (by rw [HLEN.out]; omega) (by rw [HLEN.out]; omega) HOK.out))
    have HB3 := Lib.hid (HB2.out.trans (hb3.mono HB2.out.size))
    clear hE3 hb3 HS
    go_wp2_with fail
    refine HU.out.mono ?_
    rintro e w4 ⟨B4, b4, d4', rfl, hE4, hb4⟩
    have hB4 := HB3.out.trans (hb4.mono HB3.out.size)
    have hb4l := hE4.len
    have HSE := Lib.hid (same_evs hE4 (HE.out.below hB4) (by rw [← hb4l, HLEN.out]; omega) (by omega))
    have HB4 := Lib.hid hB4
    have hk : (((headOf f).length : Int) == (m1 : Int)) = true := by rw [HM1.out]; simp
    clear hE4 hb4 hB4 hb4l HU
    go_wp2_with fail
    refine HSE.out.mono ?_
    rintro e w5 ⟨rfl, hb5⟩
    have HB5 := Lib.hid (HB4.out.trans (hb5.mono HB4.out.size))
    clear hb5 HSE
    go_wp2_with fail
    refine (awake4_any _).mono ?_
    rintro e w9 ⟨rfl, hb9⟩
    go_wp2_with fail
    go_ret
    exact ⟨rfl, HB5.out.trans (hb9.mono HB5.out.size)⟩
  · have hbad : x < 0 ∨ 4611686018427387904 < x := by omega
    have HH := Lib.hid (Head_no x w hbad)
    have HP := Lib.hid (Pack_no x A n c w hbad)
    clear hE
    by_cases hneg : x < 0
    · have d2 : decide ((0 : Int) ≤ x) = false := decide_eq_false (by omega)
      clear hbad hmay hneg
      go_enter Try.func13, Try.ntmps13
      go_wp2_with fail
      refine HH.out.mono ?_
      rintro e w1 ⟨rfl, rfl⟩
      go_wp2_with fail
      refine HP.out.mono ?_
      rintro e w1 ⟨rfl, rfl⟩
      go_wp2_with fail
      refine (awake4_any _).mono ?_
      rintro e w9 ⟨rfl, hb9⟩
      go_wp2_with fail
      go_ret
      exact ⟨rfl, hb9⟩
    · have d2 : decide ((0 : Int) ≤ x) = true := decide_eq_true (by omega)
      have d3 : decide (x ≤ 4611686018427387904) = false := decide_eq_false (by omega)
      clear hbad hmay hneg
      go_enter Try.func13, Try.ntmps13
      go_wp2_with fail
      refine HH.out.mono ?_
      rintro e w1 ⟨rfl, rfl⟩
      go_wp2_with fail
      refine HP.out.mono ?_
      rintro e w1 ⟨rfl, rfl⟩
      go_wp2_with fail
      refine (awake4_any _).mono ?_
      rintro e w9 ⟨rfl, hb9⟩
      go_wp2_with fail
      go_ret
      exact ⟨rfl, hb9⟩
end Go.Proofs.Ytinakeabbgphlaa

/-
  SegmentFirsts: the number first changes what is told of first alone.
-/
set_option linter.unusedVariables false
set_option linter.unusedSimpArgs false
namespace Go.Proofs.Ytinakeabbgphlaa
open Go.RowKit
open Go.Lib (byteCells byteCells_length byteCells_append uvarint)

theorem same_bool {w : World} {A : Option Addr} {n c : Nat} {l : List UInt8} {B : Option Addr} {m d : Nat} {k : List UInt8} {t : Bool} (h1 : IsB w A n c l) (h2 : IsB w B m d k) (ht : decide (l = k) = t) :
    Calls Try.prog 16 #[.slice A n c, .slice B m d] w fun e w' => e = .returned (.bool t) ∧ w = w' := by
  have := samebytes_any h1 h2
  rwa [ht] at this
set_option maxRecDepth 100000 in
set_option maxHeartbeats 4000000 in
theorem firsts_walk (a b : Nat) (A : Option Addr) (n c : Nat) (es : List Ev) (w : World) (hE : IsEv w A n c es) (hok : ∀ e ∈ es, e.ok) (ha : a < 4294967296) (hb : b < 4294967296) (hn : n ≤ maxLen) :
    Calls Try.prog 11 #[.int .u32 (a : Int), .int .u32 (b : Int), .slice A n c] w fun e w' => e = .returned (.bool true) ∧ Below w.heap.size w w' := by
  unfold maxLen at hn
  by_cases h0 : n = 0
  · have d0 : ((n : Int) == 0) = true := by rw [h0]; rfl
    clear hE
    go_enter Try.func11, Try.ntmps11
    go_wp2_with fail
    refine (awake4_any _).mono ?_
    rintro e w9 ⟨rfl, hb9⟩
    go_wp2_with fail
    go_ret
    exact ⟨rfl, hb9⟩
  have d0 : ((n : Int) == 0) = false := beq_eq_false_iff_ne.2 (by omega)
  by_cases h50 : 100 < n
  · have d1 : decide ((100 : Int) < (n : Int)) = true := decide_eq_true (by omega)
    clear hE
    go_enter Try.func11, Try.ntmps11
    go_wp2_with fail
    refine (awake4_any _).mono ?_
    rintro e w9 ⟨rfl, hb9⟩
    go_wp2_with fail
    go_ret
    exact ⟨rfl, hb9⟩
  have d1 : decide ((100 : Int) < (n : Int)) = false := decide_eq_false (by omega)
  have hlen := hE.len
  have ea := nat_i64 a (by omega)
  have eb := nat_i64 b (by omega)
  obtain ⟨t, ht, htd⟩ : ∃ t : Bool, ((a : Int) == (b : Int)) = t ∧ Hid (t = decide (a = b)) := ⟨_, rfl, by
    show _ = _
    by_cases h : a = b
    · subst h; simp
    · rw [decide_eq_false h]; exact beq_eq_false_iff_ne.2 (by omega)⟩
  have htt : (t == t) = true := by simp
  have hdh : decide (headOf a = headOf b) = t := by
    rw [htd.out]
    by_cases h : a = b
    · subst h; simp
    · rw [decide_eq_false h, decide_eq_false fun e => h (headOf_inj (by omega) (by omega) e)]
  have hdp : decide (sealed (denseOf a es) = sealed (denseOf b es)) = t := by
    rw [htd.out]
    by_cases h : a = b
    · subst h; simp
    · rw [decide_eq_false h, decide_eq_false fun e => h (denseOf_inj (by omega) (by omega) (sealed_inj e))]
  have HDH := Lib.hid hdh
  have HDP := Lib.hid hdp
  have HHa := Lib.hid (Head_is a w (by omega))
  have HE := Lib.hid hE
  have HOK := Lib.hid hok
  have HLEN := Lib.hid hlen
  have hqa : ((a : Int) != (a : Int)) = false := by simp
  have hqb : ((b : Int) != (b : Int)) = false := by simp
  have hqe : ((a : Int) == (a : Int)) = true := by simp
  clear hE hok hlen hdh hdp
  go_enter Try.func11, Try.ntmps11
  go_wp2_with fail
  refine HHa.out.mono ?_
  rintro e w1 ⟨A1, m1, c1, rfl, hI1, hb1⟩
  have HHb := Lib.hid (Head_is b w1 (by omega))
  have HI1 := Lib.hid hI1
  have HB1 := Lib.hid hb1
  clear hI1 hb1 HHa
  go_wp2_with fail
  refine HHb.out.mono ?_
  rintro e w2 ⟨A2, m2, c2, rfl, hI2, hb2⟩
  have HB2 := Lib.hid (HB1.out.trans (hb2.mono HB1.out.size))
  have HI1 := Lib.hid (HI1.out.below hb2)
  have HI2 := Lib.hid hI2
  have HPa := Lib.hid (Pack_is a A n c es w2 (HE.out.below HB2.out) (by omega) (by omega) HOK.out (by omega))
  clear hI2 hb2 HHb
  go_wp2_with fail
  refine HPa.out.mono ?_
  rintro e w3 ⟨A3, m3, c3, rfl, hI3, hb3⟩
  have HB3 := Lib.hid (HB2.out.trans (hb3.mono HB2.out.size))
  have HI1 := Lib.hid (HI1.out.below hb3)
  have HI2 := Lib.hid (HI2.out.below hb3)
  have HI3 := Lib.hid hI3
  have HPb := Lib.hid (Pack_is b A n c es w3 (HE.out.below HB3.out) (by omega) (by omega) HOK.out (by omega))
  clear hI3 hb3 HPa
  go_wp2_with fail
  refine HPb.out.mono ?_
  rintro e w4 ⟨A4, m4, c4, rfl, hI4, hb4⟩
  have HB4 := Lib.hid (HB3.out.trans (hb4.mono HB3.out.size))
  have HI1 := Lib.hid (HI1.out.below hb4)
  have HI2 := Lib.hid (HI2.out.below hb4)
  have HI3 := Lib.hid (HI3.out.below hb4)
  have HI4 := Lib.hid hI4
  have hl3 := HI3.out.len
  have hl4 := hI4.len
  have hda := dense_most a es (by rw [HLEN.out]; omega) (by omega)
  have hdb := dense_most b es (by rw [HLEN.out]; omega) (by omega)
  have hm3 : m3 ≤ 1000000 := by omega
  have hm4 : m4 ≤ 1000000 := by omega
  have HUa := Lib.hid (Unpack_is HI3.out hm3 (unpackOf_pack (first := a) (by omega) (by rw [HLEN.out]; omega) (by rw [HLEN.out]; omega) HOK.out))
  clear hI4 hb4 HPb hl3 hl4 hda hdb
  go_wp2_with fail
  refine HUa.out.mono ?_
  rintro e w5 ⟨B5, b5, d5, rfl, hE5, hb5⟩
  have HB5 := Lib.hid (HB4.out.trans (hb5.mono HB4.out.size))
  have HI1 := Lib.hid (HI1.out.below hb5)
  have HI2 := Lib.hid (HI2.out.below hb5)
  have HI3 := Lib.hid (HI3.out.below hb5)
  have HI4 := Lib.hid (HI4.out.below hb5)
  have HE5 := Lib.hid hE5
  have hl5 := hE5.len
  have HUb := Lib.hid (Unpack_is HI4.out hm4 (unpackOf_pack (first := b) (by omega) (by rw [HLEN.out]; omega) (by rw [HLEN.out]; omega) HOK.out))
  have hb5m : b5 ≤ 1000000 := by rw [← hl5, HLEN.out]; omega
  clear hE5 hb5 HUa hl5
  go_wp2_with fail
  refine HUb.out.mono ?_
  rintro e w6 ⟨B6, b6, d6, rfl, hE6, hb6⟩
  have HB6 := Lib.hid (HB5.out.trans (hb6.mono HB5.out.size))
  have HI1 := Lib.hid (HI1.out.below hb6)
  have HI2 := Lib.hid (HI2.out.below hb6)
  have HI3 := Lib.hid (HI3.out.below hb6)
  have HI4 := Lib.hid (HI4.out.below hb6)
  have HE5 := Lib.hid (HE5.out.below hb6)
  have HE6 := Lib.hid hE6
  have hl6 := hE6.len
  have hb6m : b6 ≤ 1000000 := by rw [← hl6, HLEN.out]; omega
  have HS1 := Lib.hid (same_evs HE5.out (HE.out.below HB6.out) hb5m (by omega))
  clear hE6 hb6 HUb hl6
  go_wp2_with fail
  refine HS1.out.mono ?_
  rintro e w7 ⟨rfl, hb7⟩
  have HB7 := Lib.hid (HB6.out.trans (hb7.mono HB6.out.size))
  have HI1 := Lib.hid (HI1.out.below hb7)
  have HI2 := Lib.hid (HI2.out.below hb7)
  have HI3 := Lib.hid (HI3.out.below hb7)
  have HI4 := Lib.hid (HI4.out.below hb7)
  have HS2 := Lib.hid (same_evs (HE6.out.below hb7) (HE.out.below HB7.out) hb6m (by omega))
  clear hb7 HS1 HE5 HE6
  go_wp2_with fail
  refine HS2.out.mono ?_
  rintro e w8 ⟨rfl, hb8⟩
  have HB8 := Lib.hid (HB7.out.trans (hb8.mono HB7.out.size))
  have HI1 := Lib.hid (HI1.out.below hb8)
  have HI2 := Lib.hid (HI2.out.below hb8)
  have HI3 := Lib.hid (HI3.out.below hb8)
  have HI4 := Lib.hid (HI4.out.below hb8)
  have hl1 := HI1.out.len
  have hh := headOf_most (first := a) (by omega)
  have HSc := Lib.hid (Scan_is HI1.out (by omega) (scan_head a (by omega)))
  have hk : (((headOf a).length : Int) == (m1 : Int)) = true := by rw [hl1]; simp
  clear hb8 HS2 hl1 hh
  go_wp2_with fail
  refine HSc.out.mono ?_
  rintro e w9 ⟨B9, b9, d9, rfl, hE9, hb9⟩
  have HB9 := Lib.hid (HB8.out.trans (hb9.mono HB8.out.size))
  have HY1 := Lib.hid (same_bool (HI1.out.below hb9) (HI2.out.below hb9) HDH.out)
  have HY2 := Lib.hid (same_bool (HI3.out.below hb9) (HI4.out.below hb9) HDP.out)
  clear hE9 hb9 HSc
  go_wp2_with fail
  refine HY1.out.mono ?_
  rintro e w10 ⟨rfl, rfl⟩
  go_wp2_with fail
  refine HY2.out.mono ?_
  rintro e w10 ⟨rfl, rfl⟩
  go_wp2_with fail
  refine (awake4_any _).mono ?_
  rintro e w11 ⟨rfl, hb11⟩
  go_wp2_with fail
  go_ret
  exact ⟨rfl, HB9.out.trans (hb11.mono HB9.out.size)⟩
end Go.Proofs.Ytinakeabbgphlaa

/-
  Events in frames of so many, behind a head.
-/
set_option linter.unusedVariables false
set_option linter.unusedSimpArgs false
namespace Go.Proofs.Ytinakeabbgphlaa
open Go.RowKit
open Go.Lib (byteCells byteCells_length byteCells_append uvarint)

def chunk (k : Nat) (es : List Ev) (j : Nat) : List Ev := (es.drop (j * k)).take k
def chunks (k : Nat) (es : List Ev) (j : Nat) : List (List Ev) := (List.range j).map (chunk k es)
theorem chunks_succ (k : Nat) (es : List Ev) (j : Nat) : chunks k es (j + 1) = chunks k es j ++ [chunk k es j] := by
  unfold chunks
  rw [List.range_succ, List.map_append]
  rfl
theorem chunks_flat (k : Nat) (es : List Ev) : ∀ j, (chunks k es j).flatten = es.take (j * k)
  | 0 => by simp [chunks]
  | j + 1 => by
    rw [chunks_succ, List.flatten_append, chunks_flat k es j, Nat.add_mul, Nat.one_mul, List.take_add]
    simp [chunk]
theorem chunk_evs {k : Nat} {es : List Ev} {j : Nat} (hk : 1 ≤ k) (hk9 : k ≤ 100) (hj : j * k < es.length) (hok : ∀ e ∈ es, e.ok) : Evs (chunk k es j) := by
  refine ⟨?_, ?_, fun x hx => hok x (List.mem_of_mem_drop (List.mem_of_mem_take hx))⟩
  · unfold chunk; rw [List.length_take, List.length_drop]; omega
  · unfold chunk; rw [List.length_take]; omega
theorem chunks_evs {k : Nat} {es : List Ev} {j : Nat} (hk : 1 ≤ k) (hk9 : k ≤ 100) (hj : (j - 1) * k < es.length ∨ j = 0) (hok : ∀ e ∈ es, e.ok) : ∀ f ∈ chunks k es j, Evs f := by
  intro f hf
  obtain ⟨i, hi, rfl⟩ := List.mem_map.1 hf
  have hij := List.mem_range.1 hi
  refine chunk_evs hk hk9 ?_ hok
  rcases hj with h | h
  · exact Nat.lt_of_le_of_lt (Nat.mul_le_mul_right k (by omega)) h
  · omega
def segOf (first k : Nat) (es : List Ev) (j : Nat) : List UInt8 := headOf first ++ framesOf (chunks k es j)
theorem segOf_succ (first k : Nat) (es : List Ev) (j : Nat) : segOf first k es (j + 1) = segOf first k es j ++ frameOf (chunk k es j) := by
  unfold segOf
  rw [chunks_succ]
  unfold framesOf
  rw [List.flatMap_append, List.append_assoc]
  simp
theorem frame_most {f : List Ev} (h : f.length ≤ 100) : (frameOf f).length ≤ 5000 := by
  have h1 := encEvs_most f Ev.zero
  have h2 := Lib.uvarint_length64 (x := f.length) (by omega)
  have h3 : (bodyOf f).length ≤ 4200 := by unfold bodyOf; rw [List.length_append]; omega
  have h4 := Lib.uvarint_length64 (x := (bodyOf f).length) (by omega)
  rw [frameOf_length]
  omega
theorem segOf_most {first k : Nat} {es : List Ev} (hf : first ≤ 4611686018427387904) (hk : k ≤ 100) : ∀ j, (segOf first k es j).length ≤ 18 + 5000 * j
  | 0 => by
    have := headOf_most (first := first) (by omega)
    show (headOf first ++ []).length ≤ _
    rw [List.append_nil]
    omega
  | j + 1 => by
    have h1 := segOf_most (first := first) (k := k) (es := es) hf hk j
    have h2 := frame_most (f := chunk k es j) (by unfold chunk; rw [List.length_take]; omega)
    rw [segOf_succ, List.length_append]
    omega
theorem scan_seg {first k : Nat} {es : List Ev} {j : Nat} {r : List UInt8} (hf : first ≤ 4611686018427387904) (hk : 1 ≤ k) (hk9 : k ≤ 100) (hj : (j - 1) * k < es.length ∨ j = 0) (hok : ∀ e ∈ es, e.ok)
    (hr : (rdFrame (segOf first k es j ++ r) (segOf first k es j).length).2.2 ≠ 0) : scanOf (segOf first k es j ++ r) = (first, es.take (j * k), (segOf first k es j).length, 0) := by
  have hl : (segOf first k es j).length = (headOf first).length + (framesOf (chunks k es j)).length := by unfold segOf; rw [List.length_append]
  have h := scanOf_seg (l := segOf first k es j ++ r) (r := r) (first := first) (fs := chunks k es j) hf (chunks_evs hk hk9 hj hok) (by unfold segOf; rw [List.append_assoc]) (by rw [← hl]; exact hr)
  rw [h, chunks_flat, hl]
theorem rd_nought {l r : List UInt8} {k : Nat} (h : l.drop k = 0 :: r) : (rdFrame l k).2.2 ≠ 0 := by
  intro h0
  obtain ⟨he, s, hd, hn⟩ := rdFrame_sound h0
  generalize (rdFrame l k).1 = f at he hd
  rw [h] at hd
  unfold frameOf at hd
  rw [List.append_assoc] at hd
  have h1 : uvarint 0 ++ r = uvarint (bodyOf f).length ++ (sealed (bodyOf f) ++ s) := by rw [uv0]; exact hd
  have hm := bodyOf_most he.most
  have h2 := (uvarint_front (by decide) (by omega) h1).1
  have h3 : 1 ≤ (bodyOf f).length := by
    unfold bodyOf
    have := Lib.uvarint_pos f.length
    rw [List.length_append]
    omega
  omega

theorem run_cutE (w : World) (A : Option Addr) (n c i j : Nat) (hij : i ≤ j) (hj : j ≤ c) :
    (Instr.slice 33 (.slice A n c) (some (.int .i64 (i : Int))) (some (.int .i64 (j : Int))) none).run Try.prog w = .ok (.slice (if c = i then A else A.map (·.add (i * 5))) (j - i) (c - i)) w := by
  obtain ⟨i0, hi, hz0, hz1, hz2⟩ := info_parts infoEv
  have ht : Try.prog.underlying 33 = some (.slice (Try.prog.elem 33)) := by simp [Program.elem, Try.underlying33]
  have he : Try.prog.elem 33 = 24 := by simp [Program.elem, Try.underlying33]
  rw [run_slice_lh w 33 A n c ht .i64 .i64 (i : Int) (j : Int) (by omega) (by omega) (by omega), he]
  simp [sizeOf, typeInfo, hi, hz1, Result.andThen, sliced]
theorem IsEv.cut {w : World} {A : Option Addr} {n c : Nat} {l : List Ev} (h : IsEv w A n c l) {i m : Nat} (hi : i + m ≤ n) :
    IsEv w (if c = i then A else A.map (·.add (i * 5))) m (c - i) ((l.drop i).take m) := by
  obtain ⟨hl, hc, hnone, hsrc⟩ := h
  refine ⟨by rw [List.length_take, List.length_drop]; omega, by omega, fun e => ?_, ?_⟩
  · by_cases hci : c = i
    · omega
    · rw [if_neg hci] at e
      cases A with
      | none => have := hnone rfl; omega
      | some a => simp at e
  · rcases Nat.eq_zero_or_pos m with h0 | h0
    · subst h0; exact .inl (by simp)
    · rw [if_neg (by omega)]
      rcases hsrc with rfl | ⟨b, o, rfl, hcell⟩
      · simp at hl; omega
      · refine .inr ⟨b, o + i * 5, by simp [Addr.add_lit], fun j u hj f v hv => ?_⟩
        have hj' : l[i + j]? = some u := by
          have hjm : j < m := by
            have h1 := (List.getElem?_eq_some_iff.1 hj).1
            rw [List.length_take] at h1
            omega
          rw [List.getElem?_take_of_lt hjm, List.getElem?_drop] at hj
          exact hj
        have := hcell (i + j) u hj' f v hv
        rwa [Nat.add_mul, ← Nat.add_assoc] at this

theorem chunk_cut {k j I J n : Nat} {es : List Ev} (hI : I = j * k) (hJ : J = min (I + k) n) (hl : es.length = n) : (es.drop I).take (J - I) = chunk k es j := by
  unfold chunk
  rw [← hI]
  by_cases h : I + k ≤ n
  · have e : J - I = k := by omega
    rw [e]
  · have e1 : (es.drop I).length ≤ J - I := by rw [List.length_drop]; omega
    have e2 : (es.drop I).length ≤ k := by rw [List.length_drop]; omega
    rw [List.take_of_length_le e1, List.take_of_length_le e2]
theorem chunk_len (k : Nat) (es : List Ev) (j : Nat) : (chunk k es j).length ≤ k := by unfold chunk; rw [List.length_take]; omega
theorem chunk_count {j k I n N : Nat} (hk : 1 ≤ k) (hI : I = j * k) (hi : I < n) (hn : n ≤ N) : j + 1 ≤ N := by
  have h1 : j * 1 ≤ j * k := Nat.mul_le_mul_left j hk
  rw [← hI] at h1
  omega
theorem wrap_two (a b : Nat) (h : a + b ≤ 100000000) : wrap64 ((a : Int) + (b : Int)) = (a : Int) + (b : Int) := by unfold wrap64; omega
theorem min_two (a b n J : Nat) (h : J = min (a + b) n) : min ((a : Int) + (b : Int)) (n : Int) = (J : Int) := by rw [h]; omega
set_option maxRecDepth 100000 in
set_option maxHeartbeats 4000000 in
theorem segmented_any (first : Nat) (A : Option Addr) (n c k : Nat) (es : List Ev) (w : World) (hE : IsEv w A n c es) (hok : ∀ e ∈ es, e.ok) (hf : first ≤ 4611686018427387904) (hk : 1 ≤ k) (hk9 : k ≤ 100) (hn : n ≤ 100) :
    Calls Try.prog 44 #[.int .i64 (first : Int), .slice A n c, .int .i64 (k : Int)] w fun e w' =>
      ∃ B m d j, e = .returned (.tuple #[.slice B m d, .bool true]) ∧ IsB w' B m d (segOf first k es j) ∧ (((j - 1) * k < es.length ∨ j = 0) ∧ es.length ≤ j * k ∧ j ≤ 100) ∧ Below w.heap.size w w' := by
  have HH := Lib.hid (Head_any first w hf)
  have HE := Lib.hid hE
  have HOK := Lib.hid hok
  have hcap := hE.cap
  have HLEN := Lib.hid hE.len
  clear hE hok
  go_enter Try.func44, Try.ntmps44
  go_wp2_with fail
  refine HH.out.mono ?_
  rintro e w1 ⟨v, rfl, ho, hb1⟩
  obtain ⟨r0, rfl, hc0, hr0⟩ := row_of_own ho 0 rfl
  have hg0 : Hid (∀ b, r0.g = some b → w.heap.size ≤ b) := fun b hb0 => by
    rcases ho.2 with ⟨hv, _⟩ | ⟨g, cap, cur, hv, hbg, hg, hr⟩
    · have h3 := r0.own; rw [hv] at h3; rw [← h3] at hb0; cases hb0
    · have h3 := r0.own; rw [hv] at h3
      have h4 : some g = r0.g := h3
      rw [← h4] at hb0; injection hb0 with hb0; omega
  obtain ⟨A2, m2, c2, hs2⟩ : ∃ A m c, r0.sl = .slice A m c := ⟨_, _, _, rfl⟩
  rw [hs2]
  have HR0 := Lib.hid hr0
  have HC0 := Lib.hid hc0
  have HS2 := Lib.hid hs2
  have HB1 := Lib.hid hb1
  clear ho hr0 hc0 hs2 hb1 HH
  go_wp2_with fail
  go_loopw [8, 9, 10] (fun bb er q wr => ∃ (j I : Nat) (r : Raw) (A1 : Option Addr) (m1 c1 : Nat), q = .int .i64 (I : Int) ∧ er = .int .i64 0 ∧ Hid (I = j * k) ∧ j ≤ 100 ∧ Hid ((j - 1) * k < n ∨ j = 0) ∧ bb = .slice A1 m1 c1 ∧ Hid (r.sl = .slice A1 m1 c1) ∧ FRow wr r ∧ Hid (r.c = (segOf first k es j, 0)) ∧ Hid (∀ b, r.g = some b → w.heap.size ≤ b) ∧ Below w.heap.size w wr)
    (fun _ _ q _ => n + 200 - (intOf q).toNat)
  case atStart => exact ⟨0, 0, r0, A2, m2, c2, rfl, rfl, by show _ = _; rw [Nat.zero_mul], by omega, .inr rfl, rfl, HS2.out, HR0.out, by show _ = _; rw [HC0.out]; show (headOf first, 0) = (headOf first ++ [], 0); rw [List.append_nil], hg0, HB1.out⟩
  case round =>
    obtain ⟨j, I, r, A1, m1, c1, rfl, rfl, hI, hj, hjk, rfl, hsl, hr, hrc, hrg, hBr⟩ := hrel
    have hbs := hBr.size
    have hm1 : m1 = (segOf first k es j).length := by
      have h9 := sl_same hsl.out
      rw [hrc.out] at h9
      exact h9
    have hsm := segOf_most (first := first) (k := k) (es := es) hf hk9 j
    have hm1b : m1 ≤ 1000000 := by omega
    have HM1 := Lib.hid hm1
    have HR := Lib.hid hr
    have HBr := Lib.hid hBr
    clear hr hBr hm1 hsm
    by_cases hi : I < n
    · have hd : decide ((I : Int) < (n : Int)) = true := decide_eq_true (by omega)
      obtain ⟨J, hJ⟩ : ∃ J : Nat, Hid (J = min (I + k) n) := ⟨_, rfl⟩
      have hJ1 : I + 1 ≤ J := by rw [hJ.out]; omega
      have hJn : J ≤ n := by rw [hJ.out]; omega
      have hmin := min_two I k n J hJ.out
      have hcut := (HE.out.below HBr.out).cut (i := I) (m := J - I) (by omega)
      rw [if_neg (show ¬ c = I by omega)] at hcut
      have hch := chunk_cut hI.out hJ.out HLEN.out
      rw [hch] at hcut
      have hev := chunk_evs (j := j) hk hk9 (by rw [← hI.out, HLEN.out]; exact hi) HOK.out
      have hcl := hcut.len
      have hM1 : 1 ≤ J - I := by omega
      have hM2 : J - I ≤ 4096 := by omega
      have hF := Frame_any _ (J - I) (c - I) (chunk k es j) wr hcut hM1 hM2 hev.ok
      have hfm := frame_most (Nat.le_trans (chunk_len k es j) hk9)
      have HF := Lib.hid hF
      have hjk2 : Hid ((j + 1 - 1) * k < n ∨ j + 1 = 0) := .inl (by rw [show j + 1 - 1 = j by omega, ← hI.out]; exact hi)
      have hI2 : Hid (I + k = (j + 1) * k) := by show _ = _; rw [Nat.add_mul, Nat.one_mul, hI.out]
      have hj2 := chunk_count hk hI.out hi hn
      clear hcut hch hev hcl hF
      go_wp2_with fail
      refine HF.out.mono ?_
      rintro e w3 ⟨v, rfl, ho3, hb3⟩
      obtain ⟨A3, m3, c3, rfl, hI3⟩ := own_slice ho3
      have hm3 := hI3.len
      have hr3 := HR.out.away (Away.of_new hb3 (fun _ => False)) (fun _ _ f => f)
      obtain ⟨v', w4, hap, g, cap, rfl, hrow, hg, hgr⟩ := rowB hr3 hI3 (by rw [hrc.out]; show (segOf first k es j).length + m3 ≤ _; rw [← HM1.out]; omega) A1 m1 c1 hsl.out 27
      have hag := Away.of_grown hgr
      have hB4 := (HBr.out.trans (hb3.mono hbs)).trans (hag.below (B := w.heap.size) (Nat.le_trans hbs hb3.size) fun b hb => hrg.out b hb)
      have hz3 := hb3.size
      have hg2 : Hid (∀ b, (⟨g, cap, (r.c.1 ++ frameOf (chunk k es j), r.c.2)⟩ : Raw).g = some b → w.heap.size ≤ b) := fun b hb => by
        have hb : g = some b := hb
        rcases hg with e | e
        · rw [e] at hb; exact hrg.out b hb
        · rw [e] at hb; injection hb with hb; omega
      have hsl2 : Hid (Raw.sl ⟨g, cap, (r.c.1 ++ frameOf (chunk k es j), r.c.2)⟩ = .slice (g.map fun b => ⟨b, 0, none⟩) (m1 + m3) cap) := by
        show _ = _
        unfold Raw.sl
        rw [List.length_append, hm3, ← sl_same hsl.out]
      have hrc2 : Hid ((⟨g, cap, (r.c.1 ++ frameOf (chunk k es j), r.c.2)⟩ : Raw).c = (segOf first k es (j + 1), 0)) := by
        show _ = _
        rw [segOf_succ]
        show (r.c.1 ++ _, r.c.2) = _
        rw [hrc.out]
      have HROW := Lib.hid hrow
      have HB4 := Lib.hid hB4
      clear ho3 hI3 hr3 hrow hg hgr hag hb3 hB4 hm3 HF
      go_wp2_with (at_builtin; refine wpList_run _ rfl (.tmp 41) (.tmp 42) 27 rfl (R := fun v' w' => .slice (g.map fun b => ⟨b, 0, none⟩) (m1 + m3) cap = v' ∧ w4 = w') ⟨_, _, hap, rfl, rfl⟩ ?_; rintro v' w' ⟨rfl, rfl⟩)
      go_roundw
      case rel => exact ⟨j + 1, I + k, ⟨g, cap, (r.c.1 ++ frameOf (chunk k es j), r.c.2)⟩, _, _, _, by rw [Int.natCast_add], rfl, hI2, hj2, hjk2, rfl, hsl2, HROW.out, hrc2, hg2, HB4.out⟩
      case measure => simp [intOf]; omega
    · have hd : decide ((I : Int) < (n : Int)) = false := decide_eq_false (by omega)
      have hIB := sl_isB HR.out hsl.out
      rw [hrc.out] at hIB
      have HIB := Lib.hid hIB
      have hfin : ((j - 1) * k < es.length ∨ j = 0) ∧ es.length ≤ j * k ∧ j ≤ 100 := by
        rw [HLEN.out]
        exact ⟨hjk.out, by rw [← hI.out]; omega, hj⟩
      have HFIN := Lib.hid hfin
      clear hIB hfin
      go_wp2_with fail
      refine bodyPost_ret (v := .tuple #[.slice A1 m1 c1, .bool true]) (by simp [results, Try.results44, go_sem]) rfl ⟨A1, m1, c1, rfl, j, HIB.out, HFIN.out, HBr.out⟩
end Go.Proofs.Ytinakeabbgphlaa

/-
  SegmentFramed: however events are framed, a segment tells the same.
-/
set_option linter.unusedVariables false
set_option linter.unusedSimpArgs false
namespace Go.Proofs.Ytinakeabbgphlaa
open Go.RowKit
open Go.Lib (byteCells byteCells_length byteCells_append uvarint)

theorem seg_end {first k : Nat} {es : List Ev} {j : Nat} (hf : first ≤ 4611686018427387904) (hk : 1 ≤ k) (hk9 : k ≤ 100) (h : ((j - 1) * k < es.length ∨ j = 0) ∧ es.length ≤ j * k ∧ j ≤ 100) (hok : ∀ e ∈ es, e.ok) :
    scanOf (segOf first k es j) = (first, es, (segOf first k es j).length, 0) := by
  have h1 := scan_seg (r := []) hf hk hk9 h.1 hok (by rw [List.append_nil]; exact rd_end (Nat.le_refl _))
  rw [List.append_nil, List.take_of_length_le h.2.1] at h1
  exact h1
theorem seg_more {first k : Nat} {es : List Ev} {j : Nat} {b : List UInt8} (hf : first ≤ 4611686018427387904) (hk : 1 ≤ k) (hk9 : k ≤ 100) (h : ((j - 1) * k < es.length ∨ j = 0) ∧ es.length ≤ j * k ∧ j ≤ 100) (hok : ∀ e ∈ es, e.ok) :
    scanOf ((segOf first k es j ++ [0]) ++ b) = (first, es, (segOf first k es j).length, 0) := by
  rw [List.append_assoc]
  have h1 := scan_seg (r := [0] ++ b) hf hk hk9 h.1 hok (rd_nought (r := b) (by rw [List.drop_left]; rfl))
  rw [List.take_of_length_le h.2.1] at h1
  exact h1
set_option maxRecDepth 100000 in
set_option maxHeartbeats 4000000 in
theorem framed_walk (f : Nat) (A : Option Addr) (n c : Nat) (es : List Ev) (o t : Nat) (B : Option Addr) (m d : Nat) (bh : List UInt8) (w : World) (hE : IsEv w A n c es) (hok : ∀ e ∈ es, e.ok) (hB : IsB w B m d bh) (hf : f < 4294967296) (ho : o < 256) (ht : t < 256) (hn : n ≤ maxLen) (hm : m ≤ maxLen) :
    Calls Try.prog 9 #[.int .u32 (f : Int), .slice A n c, .int .u8 (o : Int), .int .u8 (t : Int), .slice B m d] w fun e w' => e = .returned (.bool true) ∧ Below w.heap.size w w' := by
  unfold maxLen at hn hm
  by_cases h100 : 100 < n
  · have d1 : decide ((100 : Int) < (n : Int)) = true := decide_eq_true (by omega)
    clear hE hB
    go_enter Try.func9, Try.ntmps9
    go_wp2_with fail
    refine (awake4_any _).mono ?_
    rintro e w9 ⟨rfl, hb9⟩
    go_wp2_with fail
    go_ret
    exact ⟨rfl, hb9⟩
  have d1 : decide ((100 : Int) < (n : Int)) = false := decide_eq_false (by omega)
  by_cases hb100 : 100 < m
  · have d2 : decide ((100 : Int) < (m : Int)) = true := decide_eq_true (by omega)
    clear hE hB
    go_enter Try.func9, Try.ntmps9
    go_wp2_with fail
    refine (awake4_any _).mono ?_
    rintro e w9 ⟨rfl, hb9⟩
    go_wp2_with fail
    go_ret
    exact ⟨rfl, hb9⟩
  have d2 : decide ((100 : Int) < (m : Int)) = false := decide_eq_false (by omega)
  have hlen := hE.len
  obtain ⟨K, hK⟩ : ∃ K : Nat, Hid (K = 1 + o % 9) := ⟨_, rfl⟩
  obtain ⟨T, hT⟩ : ∃ T : Nat, Hid (T = 1 + t % 9) := ⟨_, rfl⟩
  have hK1 : 1 ≤ K ∧ K ≤ 100 := by rw [hK.out]; omega
  have hT1 : 1 ≤ T ∧ T ≤ 100 := by rw [hT.out]; omega
  have ef := nat_i64 f (by omega)
  have HE := Lib.hid hE
  have HB := Lib.hid hB
  have HOK := Lib.hid hok
  have HLEN := Lib.hid hlen
  have hk9 : (1 : Int) + (o : Int) % 9 = (K : Int) := by rw [hK.out]; omega
  have ht9 : (1 : Int) + (t : Int) % 9 = (T : Int) := by rw [hT.out]; omega
  have hqf : ((f : Int) != (f : Int)) = false := by simp
  have hf62 : f ≤ 4611686018427387904 := by omega
  have hn9 : n ≤ 100 := by omega
  have hm9 : m ≤ 100 := by omega
  have HS1 := Lib.hid (segmented_any f A n c K es w hE hok hf62 hK1.1 hK1.2 hn9)
  clear hE hB hok hlen
  go_enter Try.func9, Try.ntmps9
  go_wp2_with fail
  refine HS1.out.mono ?_
  rintro e w1 ⟨A1, m1, c1, j1, rfl, hI1, hj1, hb1⟩
  have HS2 := Lib.hid (segmented_any f A n c T es w1 (HE.out.below hb1) HOK.out hf62 hT1.1 hT1.2 hn9)
  have HI1 := Lib.hid hI1
  have HJ1 := Lib.hid hj1
  have HB1 := Lib.hid hb1
  clear hI1 hb1 HS1 hj1
  go_wp2_with fail
  refine HS2.out.mono ?_
  rintro e w2 ⟨A2, m2, c2, j2, rfl, hI2, hj2, hb2⟩
  have HB2 := Lib.hid (HB1.out.trans (hb2.mono HB1.out.size))
  have HI1 := Lib.hid (HI1.out.below hb2)
  have HI2 := Lib.hid hI2
  have HJ2 := Lib.hid hj2
  have hl1 := HI1.out.len
  have hl2 := HI2.out.len
  have hs1 := segOf_most (first := f) (k := K) (es := es) hf62 hK1.2 j1
  have hs2 := segOf_most (first := f) (k := T) (es := es) hf62 hT1.2 j2
  have hx1 := HJ1.out.2.2
  have hx2 := HJ2.out.2.2
  have hm1 : m1 ≤ 600000 := by omega
  have hm2 : m2 ≤ 600000 := by omega
  have sc1 := seg_end hf62 hK1.1 hK1.2 HJ1.out HOK.out
  have sc2 := seg_end hf62 hT1.1 hT1.2 HJ2.out HOK.out
  rw [hl1] at sc1
  rw [hl2] at sc2
  have SC2 := Lib.hid sc2
  have HSc := Lib.hid (Scan_is HI1.out (by omega) sc1)
  have hq1 : ((m1 : Int) != (m1 : Int)) = false := by simp
  have hq2 : ((m2 : Int) != (m2 : Int)) = false := by simp
  have hq3 : ((m1 : Int) == (m1 : Int)) = true := by simp
  have HL1 := Lib.hid hl1
  clear hI2 hb2 HS2 hj2 hl1 hl2 hs1 hs2 hx1 hx2 sc1 sc2
  go_wp2_with fail
  refine HSc.out.mono ?_
  rintro e w3 ⟨B3, b3, d3, rfl, hE3, hb3⟩
  have HB3 := Lib.hid (HB2.out.trans (hb3.mono HB2.out.size))
  have HI1 := Lib.hid (HI1.out.below hb3)
  have HSd := Lib.hid (Scan_is (HI2.out.below hb3) (by omega) SC2.out)
  have HE3 := Lib.hid hE3
  have hl3 := hE3.len
  have hb3m : b3 ≤ 1000000 := by rw [← hl3, HLEN.out]; omega
  clear hE3 hb3 HSc hl3 HI2
  go_wp2_with fail
  refine HSd.out.mono ?_
  rintro e w4 ⟨B4, b4, d4, rfl, hE4, hb4⟩
  have HB4 := Lib.hid (HB3.out.trans (hb4.mono HB3.out.size))
  have HI1 := Lib.hid (HI1.out.below hb4)
  have HE3 := Lib.hid (HE3.out.below hb4)
  have HE4 := Lib.hid hE4
  have hl4 := hE4.len
  have hb4m : b4 ≤ 1000000 := by rw [← hl4, HLEN.out]; omega
  have HY1 := Lib.hid (same_evs HE3.out (HE.out.below HB4.out) hb3m (by omega))
  clear hE4 hb4 HSd hl4
  go_wp2_with fail
  refine HY1.out.mono ?_
  rintro e w5 ⟨rfl, hb5⟩
  have HB5 := Lib.hid (HB4.out.trans (hb5.mono HB4.out.size))
  have HI1 := Lib.hid (HI1.out.below hb5)
  have HY2 := Lib.hid (same_evs (HE4.out.below hb5) (HE.out.below HB5.out) hb4m (by omega))
  clear hb5 HY1 HE3 HE4
  go_wp2_with fail
  refine HY2.out.mono ?_
  rintro e w6 ⟨rfl, hb6⟩
  have HB6 := Lib.hid (HB5.out.trans (hb6.mono HB5.out.size))
  have HCp := Lib.hid (copybytes_any (HI1.out.below hb6) (by omega))
  clear hb6 HY2
  go_wp2_with fail
  refine HCp.out.mono ?_
  rintro e w7 ⟨C7, c7, rfl, hSp, hb7⟩
  have hbz : Below w7.heap.size w7 (w7.alloc (.cells #[.int .u8 0] 5)) := (Below.refl _ _).alloc (Nat.le_refl _) _
  have hIz : IsB (w7.alloc (.cells #[.int .u8 0] 5)) (some ⟨w7.heap.size, 0, none⟩) 1 1 [0] := new_bytes w7 [0] #[.int .u8 0] _ _ 1 rfl rfl
  obtain ⟨C8, c8, w8, hap8, hSp8, hb8⟩ := spare_append (hSp.below hbz) (Nat.le_trans hb7.size hbz.size) hIz (by omega)
  have hb78 := (hb7.trans (hbz.mono hb7.size)).trans hb8
  have HB8 := Lib.hid (HB6.out.trans (hb78.mono HB6.out.size))
  obtain ⟨C9, c9, w9, hap9, hSp9, hb9⟩ := spare_append hSp8 hb78.size (HB.out.below HB8.out) (by omega)
  have HB9 := Lib.hid (HB6.out.trans ((hb78.trans hb9).mono HB6.out.size))
  have sm := seg_more (b := bh) hf62 hK1.1 hK1.2 HJ1.out HOK.out
  rw [HL1.out] at sm
  have HSe := Lib.hid (Scan_is hSp9.is_ (by omega) sm)
  clear hSp hbz hIz hSp8 hb8 hb78 hSp9 hb9 hb7 HCp sm
  go_wp2_with (at_builtin; first
    | (refine wpList_run _ rfl (.tmp 123) (.tmp 124) 27 rfl (R := fun v' w' => .slice C8 (m1 + 1) c8 = v' ∧ w8 = w') ⟨_, _, hap8, rfl, rfl⟩ ?_; rintro v' w' ⟨rfl, rfl⟩)
    | (refine wpList_run _ rfl (.tmp 125) (.tmp 126) 27 rfl (R := fun v' w' => .slice C9 (m1 + 1 + m) c9 = v' ∧ w9 = w') ⟨_, _, hap9, rfl, rfl⟩ ?_; rintro v' w' ⟨rfl, rfl⟩))
  refine HSe.out.mono ?_
  rintro e w10 ⟨B10, b10, d10, rfl, hE10, hb10⟩
  have HB10 := Lib.hid (HB9.out.trans (hb10.mono HB9.out.size))
  have hl10 := hE10.len
  have HY3 := Lib.hid (same_evs hE10 (HE.out.below HB10.out) (by rw [← hl10, HLEN.out]; omega) (by omega))
  clear hE10 hb10 hl10 HSe hap8 hap9
  go_wp2_with fail
  refine HY3.out.mono ?_
  rintro e w11 ⟨rfl, hb11⟩
  have HB11 := Lib.hid (HB10.out.trans (hb11.mono HB10.out.size))
  clear hb11 HY3
  go_wp2_with fail
  refine (awake4_any _).mono ?_
  rintro e w12 ⟨rfl, hb12⟩
  go_wp2_with fail
  go_ret
  exact ⟨rfl, HB11.out.trans (hb12.mono HB11.out.size)⟩
end Go.Proofs.Ytinakeabbgphlaa

/-
  Events that go on evenly: plain facts.
-/
set_option linter.unusedVariables false
set_option linter.unusedSimpArgs false
namespace Go.Proofs.Ytinakeabbgphlaa
open Go.RowKit
open Go.Lib (uvarint)

def nextEv (b e : Ev) : Ev := ⟨wrap64 (e.th + b.th), e.op, wrap64 (e.obj + b.obj), wrap64 (e.a + b.a), wrap64 (e.b + b.b)⟩
def rowG (b : Ev) : Ev → Nat → List Ev
  | _, 0 => []
  | x, n + 1 => x :: rowG b (nextEv b x) n
def itG (b : Ev) : Ev → Nat → Ev
  | x, 0 => x
  | x, n + 1 => itG b (nextEv b x) n
theorem itG_next (b : Ev) : ∀ (n : Nat) (x : Ev), nextEv b (itG b x n) = itG b x (n + 1)
  | 0, x => rfl
  | n + 1, x => itG_next b n (nextEv b x)
theorem rowG_snoc (b : Ev) : ∀ (n : Nat) (x : Ev), rowG b x (n + 1) = rowG b x n ++ [itG b x n]
  | 0, x => rfl
  | n + 1, x => by
    show x :: rowG b (nextEv b x) (n + 1) = x :: (rowG b (nextEv b x) n ++ _)
    rw [rowG_snoc b n (nextEv b x)]
    rfl
theorem rowG_len (b : Ev) : ∀ (n : Nat) (x : Ev), (rowG b x n).length = n
  | 0, _ => rfl
  | n + 1, x => by rw [rowG, List.length_cons, rowG_len b n]
theorem rowG_get (b : Ev) (n : Nat) (x : Ev) : (rowG b x (n + 1))[n]? = some (itG b x n) := by
  rw [rowG_snoc, List.getElem?_append_right (by rw [rowG_len]; exact Nat.le_refl _), rowG_len, Nat.sub_self]
  rfl
theorem nextEv_ok {b e : Ev} (h : e.ok) : (nextEv b e).ok := ⟨wrap64_in _, h.op, wrap64_in _, wrap64_in _, wrap64_in _⟩
theorem rowG_ok (b : Ev) : ∀ (n : Nat) (x : Ev), x.ok → ∀ e ∈ rowG b x n, e.ok
  | 0, _, _, e, he => by cases he
  | n + 1, x, hx, e, he => by
    rcases List.mem_cons.1 he with rfl | he
    · exact hx
    · exact rowG_ok b n (nextEv b x) (nextEv_ok hx) e he
theorem rowG_take (b x : Ev) (n : Nat) : (rowG b x (n + 2)).take 2 = rowG b x 2 := rfl
def stepG (c : Nat) (b : Ev) : Int := match c with
  | 0 => b.th
  | 1 => 0
  | 2 => b.obj
  | 3 => b.a
  | _ => b.b
theorem dif_next {b : Ev} (hb : b.ok) (c : Nat) (e : Ev) : dif (colGet c e) (colGet c (nextEv b e)) = stepG c b := by
  match c with
  | 0 => exact dif_of hb.th
  | 1 => exact dif_self _
  | 2 => exact dif_of hb.obj
  | 3 => exact dif_of hb.a
  | n + 4 => exact dif_of hb.b
theorem diffs_rowG {b : Ev} (hb : b.ok) (c : Nat) : ∀ (n : Nat) (x : Ev) (p : Int), diffs p ((rowG b x (n + 1)).map (colGet c)) = dif p (colGet c x) :: List.replicate n (stepG c b)
  | 0, x, p => rfl
  | n + 1, x, p => by
    show dif p (colGet c x) :: diffs (colGet c x) ((rowG b (nextEv b x) (n + 1)).map (colGet c)) = _
    rw [diffs_rowG hb c n (nextEv b x) (colGet c x), dif_next hb, List.replicate_succ]
theorem uv_small {n : Nat} (h : n ≤ 16383) : 1 ≤ (uvarint n).length ∧ (uvarint n).length ≤ 2 := by
  refine ⟨Lib.uvarint_pos n, ?_⟩
  by_cases hs : n < 128
  · rw [Lib.uvarint_small hs]; simp
  · rw [Lib.uvarint_big (by omega), Lib.uvarint_small (by omega)]; simp
theorem uv_one {n : Nat} (h : n < 128) : (uvarint n).length = 1 := by rw [Lib.uvarint_small h]; rfl
theorem nums_even (d s : Int) {n : Nat} (h1 : 1 ≤ n) (hn : n ≤ 300) : (encRuns (runsOf (d :: List.replicate 1 s))).length ≤ (encRuns (runsOf (d :: List.replicate n s))).length ∧
    (encRuns (runsOf (d :: List.replicate n s))).length ≤ (encRuns (runsOf (d :: List.replicate 1 s))).length + 1 := by
  have hr : ∀ m, runsOf (List.replicate (m + 1) s) = [(s, m + 1)] := fun m => by
    have := runsOf_many s [] [] rfl trivial m
    rwa [List.append_nil] at this
  have key : ∀ m, (encRuns (runsOf (d :: List.replicate (m + 1) s))).length = if d = s then (svar s).length + (uvarint (m + 2)).length else (svar d).length + 1 + ((svar s).length + (uvarint (m + 1)).length) := fun m => by
    show (encRuns (consRun d (runsOf (List.replicate (m + 1) s)))).length = _
    rw [hr]
    by_cases h : d = s
    · subst h
      rw [if_pos rfl, consRun, if_pos rfl, encRuns_cons, List.length_append, List.length_append]
      simp [encRuns]
    · rw [if_neg h, consRun, if_neg (fun e => h e.symm), encRuns_cons, encRuns_cons, List.length_append, List.length_append, List.length_append, List.length_append, uv_one (n := 1) (by decide)]
      simp [encRuns]
      omega
  obtain ⟨m, rfl⟩ : ∃ m, n = m + 1 := ⟨n - 1, by omega⟩
  have k0 := key 0
  have k1 := key m
  have u1 := uv_small (n := m + 2) (by omega)
  have u2 := uv_small (n := m + 1) (by omega)
  have v1 := uv_one (n := 2) (by decide)
  have v2 := uv_one (n := 1) (by decide)
  rw [k1]
  show (encRuns (runsOf (d :: List.replicate (0 + 1) s))).length ≤ _ ∧ _ ≤ (encRuns (runsOf (d :: List.replicate (0 + 1) s))).length + 1
  rw [k0]
  split <;> simp only [Nat.zero_add] at * <;> omega
theorem dense_even {b x : Ev} (hb : b.ok) {n : Nat} (h1 : 1 ≤ n) (hn : n ≤ 300) : (sealed (denseOf 0 (rowG b x 2))).length ≤ (sealed (denseOf 0 (rowG b x (n + 1)))).length ∧ (sealed (denseOf 0 (rowG b x (n + 1)))).length ≤ (sealed (denseOf 0 (rowG b x 2))).length + 6 := by
  have hc : ∀ c, (numsBytes ((rowG b x 2).map (colGet c))).length ≤ (numsBytes ((rowG b x (n + 1)).map (colGet c))).length ∧ (numsBytes ((rowG b x (n + 1)).map (colGet c))).length ≤ (numsBytes ((rowG b x 2).map (colGet c))).length + 1 := fun c => by
    unfold numsBytes
    rw [diffs_rowG hb c n x 0, show rowG b x 2 = rowG b x (1 + 1) from rfl, diffs_rowG hb c 1 x 0]
    exact nums_even _ _ h1 hn
  have hl : ∀ es : List Ev, (sealed (denseOf 0 es)).length = (beginOf denseMark 0).length + (uvarint es.length).length + ((numsBytes (es.map (colGet 0))).length + (numsBytes (es.map (colGet 1))).length + (numsBytes (es.map (colGet 2))).length + (numsBytes (es.map (colGet 3))).length + (numsBytes (es.map (colGet 4))).length) + 4 := fun es => by
    unfold sealed denseOf
    rw [List.length_append, List.length_append, List.length_append, sumBytes_length]
    show _ + (_ + ((((([] ++ _) ++ _) ++ _) ++ _) ++ _ : List UInt8).length) + 4 = _
    simp only [List.length_append, List.length_nil]
    omega
  have u1 := uv_small (n := n + 1) (by omega)
  have v1 := uv_one (n := 2) (by decide)
  have c0 := hc 0
  have c1 := hc 1
  have c2 := hc 2
  have c3 := hc 3
  have c4 := hc 4
  rw [hl, hl, rowG_len, rowG_len]
  omega
end Go.Proofs.Ytinakeabbgphlaa

/-
  SegmentRuns: events that go on evenly take hardly more room when there are more of them.
-/
set_option linter.unusedVariables false
set_option linter.unusedSimpArgs false
namespace Go.Proofs.Ytinakeabbgphlaa
open Go.RowKit
open Go.Lib (byteCells byteCells_length byteCells_append uvarint)

theorem IsEv.first {w : World} {A : Option Addr} {n c : Nat} {l : List Ev} (h : IsEv w A n c l) {m : Nat} (hm : m ≤ n) : IsEv w A m c (l.take m) := by
  refine ⟨by rw [List.length_take, h.len]; omega, Nat.le_trans hm h.cap, h.none_, ?_⟩
  rcases h.src with h0 | ⟨b, o, hA, hc⟩
  · exact .inl (by rw [h0, List.take_nil])
  · refine .inr ⟨b, o, hA, fun j u hj => hc j u ?_⟩
    have hj' := (List.getElem?_eq_some_iff.1 hj).1
    rw [List.length_take] at hj'
    rwa [List.getElem?_take_of_lt (by omega)] at hj
theorem owne_one (w : World) (x : Ev) : OwnE (w.alloc (.cells #[.int .i64 x.th, .int .u8 (x.op : Int), .int .i64 x.obj, .int .i64 x.a, .int .i64 x.b] 24)) w.heap.size (.slice (some ⟨w.heap.size, 0, none⟩) 1 1) [x] :=
  ⟨rfl, .inr ⟨w.heap.size, 1, _, rfl, Nat.le_refl _, heap_alloc_new _ _, Nat.le_refl _, by unfold maxLen; omega, rfl, rfl⟩⟩
set_option maxRecDepth 100000 in
set_option maxHeartbeats 4000000 in
theorem runs_walk (x b : Ev) (n : Nat) (w : World) (hx : x.ok) (hb : b.ok) (hn : n < 256) :
    Calls Try.prog 10 #[.agg #[.int .i64 x.th, .int .u8 (x.op : Int), .int .i64 x.obj, .int .i64 x.a, .int .i64 x.b], .agg #[.int .i64 b.th, .int .u8 (b.op : Int), .int .i64 b.obj, .int .i64 b.a, .int .i64 b.b], .int .u8 (n : Int)] w fun e w' => e = .returned (.bool true) ∧ Below w.heap.size w w' := by
  obtain ⟨N, hN⟩ : ∃ N : Nat, Hid (N = 2 + n % 199) := ⟨_, rfl⟩
  have hN2 : 2 ≤ N ∧ N ≤ 200 := by rw [hN.out]; omega
  have hk9 : (2 : Int) + (n : Int) % 199 = (N : Int) := by rw [hN.out]; omega
  have hbx : Below w.heap.size w (w.alloc (.cells #[.int .i64 x.th, .int .u8 (x.op : Int), .int .i64 x.obj, .int .i64 x.a, .int .i64 x.b] 24)) := (Below.refl _ _).alloc (Nat.le_refl _) _
  have hsx : (w.alloc (.cells #[.int .i64 x.th, .int .u8 (x.op : Int), .int .i64 x.obj, .int .i64 x.a, .int .i64 x.b] 24)).heap.size = w.heap.size + 1 := Array.size_push _
  have hbb : Below (w.alloc (.cells #[.int .i64 x.th, .int .u8 (x.op : Int), .int .i64 x.obj, .int .i64 x.a, .int .i64 x.b] 24)).heap.size (w.alloc (.cells #[.int .i64 x.th, .int .u8 (x.op : Int), .int .i64 x.obj, .int .i64 x.a, .int .i64 x.b] 24)) ((w.alloc (.cells #[.int .i64 x.th, .int .u8 (x.op : Int), .int .i64 x.obj, .int .i64 x.a, .int .i64 x.b] 24)).alloc (.cells #[.int .i64 b.th, .int .u8 (b.op : Int), .int .i64 b.obj, .int .i64 b.a, .int .i64 b.b] 24)) := (Below.refl _ _).alloc (Nat.le_refl _) _
  have hBW := hbx.trans (hbb.mono hbx.size)
  have hbc : ((w.alloc (.cells #[.int .i64 x.th, .int .u8 (x.op : Int), .int .i64 x.obj, .int .i64 x.a, .int .i64 x.b] 24)).alloc (.cells #[.int .i64 b.th, .int .u8 (b.op : Int), .int .i64 b.obj, .int .i64 b.a, .int .i64 b.b] 24)).heap[w.heap.size + 1]? = some (.cells #[.int .i64 b.th, .int .u8 (b.op : Int), .int .i64 b.obj, .int .i64 b.a, .int .i64 b.b] 24 (0, 0)) := by rw [← hsx]; exact heap_alloc_new _ _
  have hs2 : ((w.alloc (.cells #[.int .i64 x.th, .int .u8 (x.op : Int), .int .i64 x.obj, .int .i64 x.a, .int .i64 x.b] 24)).alloc (.cells #[.int .i64 b.th, .int .u8 (b.op : Int), .int .i64 b.obj, .int .i64 b.a, .int .i64 b.b] 24)).heap.size = w.heap.size + 2 := (Array.size_push _).trans (by rw [hsx])
  clear hbx hsx hbb
  go_enter Try.func10, Try.ntmps10
  go_wp2_with fail
  generalize (w.alloc (.cells #[.int .i64 x.th, .int .u8 (x.op : Int), .int .i64 x.obj, .int .i64 x.a, .int .i64 x.b] 24)).alloc (.cells #[.int .i64 b.th, .int .u8 (b.op : Int), .int .i64 b.obj, .int .i64 b.a, .int .i64 b.b] 24) = W0 at hBW hbc hs2 ⊢
  have hO0 := owne_one W0 x
  have hb0 : Below W0.heap.size W0 (W0.alloc (.cells #[.int .i64 x.th, .int .u8 (x.op : Int), .int .i64 x.obj, .int .i64 x.a, .int .i64 x.b] 24)) := (Below.refl _ _).alloc (Nat.le_refl _) _
  have hO0' : OwnE (W0.alloc (.cells #[.int .i64 x.th, .int .u8 (x.op : Int), .int .i64 x.obj, .int .i64 x.a, .int .i64 x.b] 24)) W0.heap.size (.slice (some ⟨w.heap.size + 2, 0, none⟩) 1 1) [x] := by rw [← hs2]; exact hO0
  have HO0 := Lib.hid hO0'
  have HB0 := Lib.hid hb0
  have HBW := Lib.hid hBW
  have HBC := Lib.hid hbc
  have HS2 := Lib.hid hs2
  clear hO0 hb0 hO0' hBW hbc hs2
  go_loopw [7, 8] (fun l q wr => ∃ (i : Nat) (A : Option Addr) (c : Nat), q = .int .i64 (i : Int) ∧ 1 ≤ i ∧ i ≤ N ∧ l = .slice A i c ∧ OwnE wr W0.heap.size (.slice A i c) (rowG b x i) ∧ Below W0.heap.size W0 wr)
    (fun _ q _ => N - (intOf q).toNat)
  case atStart => exact ⟨1, _, _, rfl, Nat.le_refl _, by omega, rfl, HO0.out, HB0.out⟩
  case round =>
    obtain ⟨i, A, c, rfl, hi1, hiN, rfl, hO, hBr⟩ := hrel
    have hsz := hBr.size
    have HO := Lib.hid hO
    have HBr := Lib.hid hBr
    obtain ⟨A', n', c', he, hI, -, hcm⟩ := hO.is_
    simp only [Value.slice.injEq] at he
    obtain ⟨rfl, rfl, rfl⟩ := he
    clear hO hBr
    by_cases hi : i < N
    · have hd : decide ((i : Int) < (N : Int)) = true := decide_eq_true (by omega)
      obtain ⟨i1, hi1d⟩ : ∃ i1, Hid (i = i1 + 1) := ⟨i - 1, by show _ = _; omega⟩
      have hi1i : i1 < i := by rw [hi1d.out]; omega
      obtain ⟨bl, o, y, rfl, hy, y0, y1, y2, y3, y4⟩ := hI.at_ hi1i
      have hyd : y = itG b x i1 := by
        rw [hi1d.out, rowG_get] at hy
        exact (Option.some.inj hy).symm
      have hcap := hI.cap
      have hsub : (i : Int) - 1 = (i1 : Int) := by have := hi1d.out; omega
      have q0 : (0 : Int) ≤ (i1 : Int) := by omega
      have q1 : (i1 : Int) < (i : Int) := by omega
      have hbp : Below wr.heap.size wr (wr.alloc (.cells #[.int .i64 y.th, .int .u8 (y.op : Int), .int .i64 y.obj, .int .i64 y.a, .int .i64 y.b] 24)) := (Below.refl _ _).alloc (Nat.le_refl _) _
      have hsp : (wr.alloc (.cells #[.int .i64 y.th, .int .u8 (y.op : Int), .int .i64 y.obj, .int .i64 y.a, .int .i64 y.b] 24)).heap.size = wr.heap.size + 1 := Array.size_push _
      have hbr : wr.heap[w.heap.size + 1]? = some (.cells #[.int .i64 b.th, .int .u8 (b.op : Int), .int .i64 b.obj, .int .i64 b.a, .int .i64 b.b] 24 (0, 0)) := (HBr.out.block _ (by rw [HS2.out]; omega)).trans HBC.out
      have hbr2 := (hbp.block _ (Array.getElem?_eq_some_iff.1 hbr).1).trans hbr
      have e0 := cell_of_row _ _ 0 _ _ _ hbr2
      have e2 := cell_of_row _ _ 2 _ _ _ hbr2
      have e3 := cell_of_row _ _ 3 _ _ _ hbr2
      have e4 := cell_of_row _ _ 4 _ _ _ hbr2
      have hbn : Below (wr.alloc (.cells #[.int .i64 y.th, .int .u8 (y.op : Int), .int .i64 y.obj, .int .i64 y.a, .int .i64 y.b] 24)).heap.size (wr.alloc (.cells #[.int .i64 y.th, .int .u8 (y.op : Int), .int .i64 y.obj, .int .i64 y.a, .int .i64 y.b] 24)) ((wr.alloc (.cells #[.int .i64 y.th, .int .u8 (y.op : Int), .int .i64 y.obj, .int .i64 y.a, .int .i64 y.b] 24)).alloc (.cells #[.int .i64 (wrap64 (y.th + b.th)), .int .u8 (y.op : Int), .int .i64 (wrap64 (y.obj + b.obj)), .int .i64 (wrap64 (y.a + b.a)), .int .i64 (wrap64 (y.b + b.b))] 24)) := (Below.refl _ _).alloc (Nat.le_refl _) _
      have hbpn := hbp.trans (hbn.mono hbp.size)
      obtain ⟨v', w4, hap, A2, c2, rfl, hO4, hA4⟩ := oe_append (HO.out.below hbpn) (Nat.le_trans hsz hbpn.size) 33 (nextEv b y) (heap_alloc_new _ _) (by rw [rowG_len]; omega)
      rw [hsp] at hap
      have hB4 := (HBr.out.trans (hbpn.mono hsz)).trans (hA4.below (B := W0.heap.size) (Nat.le_trans hsz hbpn.size) fun b' hb' => (OwnE.type (HO.out.below hbpn) hb').choose_spec.2)
      have hO5 : OwnE w4 W0.heap.size (.slice A2 (i + 1) c2) (rowG b x (i + 1)) := by
        rw [rowG_snoc, hi1d.out, ← itG_next, ← hyd, ← hi1d.out]
        exact hO4
      have HO5 := Lib.hid hO5
      have HB4 := Lib.hid hB4
      have hop := hap
      clear hyd hy hbp hsp hbr hbr2 hbn hbpn hO4 hA4 hB4 hO5 hI HO hop
      go_wp2_with (at_builtin; refine wpList_run _ rfl (.tmp 32) (.tmp 56) 33 rfl (R := fun v' w' => .slice A2 (i + 1) c2 = v' ∧ w4 = w') ⟨_, _, hap, rfl, rfl⟩ ?_; rintro v' w' ⟨rfl, rfl⟩)
      go_roundw
      case rel => exact ⟨i + 1, A2, c2, by go_num, by omega, by omega, rfl, HO5.out, HB4.out⟩
      case measure => simp [intOf]; omega
    · obtain rfl : N = i := by omega
      have hd : decide ((N : Int) < (N : Int)) = false := by simp
      have hokr := rowG_ok b N x hx
      have hI2 := IsEv.first hI (m := 2) (by omega)
      have ht2 : (rowG b x N).take 2 = rowG b x 2 := by
        obtain ⟨M, hM⟩ : ∃ M, N = M + 2 := ⟨N - 2, by omega⟩
        rw [hM]
        exact rowG_take b x M
      rw [ht2] at hI2
      have hcap := hI.cap
      have hc2 : (2 : Int) ≤ (c : Int) := by omega
      have hc2' : 2 ≤ c := by omega
      have hlr := rowG_len b N x
      obtain ⟨M, hM⟩ : ∃ M, Hid (N = M + 1) := ⟨N - 1, by show _ = _; omega⟩
      have hev := dense_even (x := x) hb (n := M) (by have := hM.out; omega) (by have := hM.out; omega)
      rw [← hM.out] at hev
      have HEV := Lib.hid hev
      have HP2 := Lib.hid (Pack_is 0 A 2 c (rowG b x 2) wr hI2 (by decide) (by decide) (rowG_ok b 2 x hx) (by decide))
      have HI := Lib.hid hI
      have HOKR := Lib.hid hokr
      have HLR := Lib.hid hlr
      clear hI2 hI ht2 hcap hokr hlr hev HO
      go_wp2_with fail
      refine HP2.out.mono ?_
      rintro e w2 ⟨AT, mT, cT, rfl, hIT, hb2⟩
      have HB2 := Lib.hid (HBr.out.trans (hb2.mono hsz))
      have HIT := Lib.hid hIT
      have HPN := Lib.hid (Pack_is 0 A N c (rowG b x N) w2 (HI.out.below hb2) (by omega) (by omega) HOKR.out (by decide))
      have HI := Lib.hid (HI.out.below hb2)
      have HLT := Lib.hid hIT.len
      clear hIT hb2 HP2
      go_wp2_with fail
      refine HPN.out.mono ?_
      rintro e w3 ⟨AN, mN, cN, rfl, hIN, hb3⟩
      have HB3 := Lib.hid (HB2.out.trans (hb3.mono HB2.out.size))
      have HI := Lib.hid (HI.out.below hb3)
      have hlN := hIN.len
      have hlT := HLT.out
      have hE1 := HEV.out.1
      have hE2 := HEV.out.2
      rw [hlN, hlT] at hE1 hE2
      have hdm := dense_most 0 (rowG b x N) (by rw [HLR.out]; omega) (by decide)
      rw [hlN] at hdm
      have hg1 : decide ((mN : Int) ≤ (mT : Int) + 6) = true := decide_eq_true (by omega)
      have hg2 : decide ((mT : Int) ≤ (mN : Int)) = true := decide_eq_true (by omega)
      have hw6 : wrap64 ((mT : Int) + 6) = (mT : Int) + 6 := by unfold wrap64; omega
      have HU := Lib.hid (Unpack_is hIN (by omega) (unpackOf_pack (first := 0) (by decide) (by rw [HLR.out]; omega) (by rw [HLR.out]; omega) HOKR.out))
      clear hIN hb3 HPN hlN hlT hdm HIT HLT
      go_wp2_with fail
      refine HU.out.mono ?_
      rintro e w4 ⟨B4, b4, d4, rfl, hE4, hb4⟩
      have HB4 := Lib.hid (HB3.out.trans (hb4.mono HB3.out.size))
      have hl4 := hE4.len
      have HS := Lib.hid (same_evs hE4 (HI.out.below hb4) (by rw [← hl4, HLR.out]; omega) (by omega))
      clear hE4 hb4 hl4 HU
      go_wp2_with fail
      refine HS.out.mono ?_
      rintro e w5 ⟨rfl, hb5⟩
      have HB5 := Lib.hid (HB4.out.trans (hb5.mono HB4.out.size))
      clear hb5 HS
      go_wp2_with fail
      refine (awake4_any _).mono ?_
      rintro e w9 ⟨rfl, hb9⟩
      have hB9 := HBW.out.trans ((HB5.out.mono HBW.out.size).trans (hb9.mono (Nat.le_trans HBW.out.size HB5.out.size)))
      go_wp2_with fail
      go_ret
      exact ⟨rfl, hB9⟩
end Go.Proofs.Ytinakeabbgphlaa

/-
  SegmentTurned: if up to four bytes next to each other of a denser coding are others, it is refused: ErrSum.
-/
set_option linter.unusedVariables false
set_option linter.unusedSimpArgs false
namespace Go.Proofs.Ytinakeabbgphlaa
open Go.RowKit
open Go.Lib (byteCells byteCells_length byteCells_append uvarint)

theorem unpackOf_sum {X S : List UInt8} (hS : S.length = 4) (h : S ≠ sumBytes (crc X)) : unpackOf (X ++ S) = (0, [], 12) := by
  have hl : (X ++ S).length = X.length + 4 := by rw [List.length_append, hS]
  unfold unpackOf
  rw [if_neg (by omega), hl, Nat.add_sub_cancel, List.drop_left, List.take_left, if_pos h]
theorem sg_cell {wr : World} {g cg m a i : Nat} {b t S : List UInt8} (hMr : Mine wr g 5 cg (turned_ b a i t ++ S)) (hbm : b.length = m) (ham : a + i < m) :
    ∃ x, (turned_ b a i t)[a + i]? = some x ∧ wr.cell? ⟨g, a + i, none⟩ = some (.int .u8 (x.toNat : Int)) := by
  have hlt : a + i < (turned_ b a i t).length := by rw [turned_length, hbm]; exact ham
  have hx : (turned_ b a i t)[a + i]? = some (turned_ b a i t)[a + i] := List.getElem?_eq_getElem hlt
  refine ⟨_, hx, ?_⟩
  exact Mine.cell hMr ((List.getElem?_append_left hlt).trans hx)
theorem sg_put {wr : World} {g cg m a i : Nat} {b t S : List UInt8} {x u : UInt8} (hMr : Mine wr g 5 cg (turned_ b a i t ++ S)) (hbm : b.length = m) (ham : a + i < m)
    (hx : (turned_ b a i t)[a + i]? = some x) (hu : t[i]? = some u) :
    Mine (wr.setCell ⟨g, a + i, none⟩ (.int .u8 (bits .xor .u8 (x.toNat : Int) (u.toNat : Int)))) g 5 cg (turned_ b a (i + 1) t ++ S) := by
  have hp := hMr.put (a + i) (x ^^^ u) _ (u8_xor_bytes x u).symm
  rw [List.set_append_left _ _ (by rw [turned_length, hbm]; exact ham), turned_step hx hu] at hp
  exact hp
theorem sg_arith {m a i : Nat} (hi : i < 4) (ham : a + i < m) (hm : m ≤ 170000) :
    decide ((i : Int) < 4) = true ∧ decide ((a : Int) + (i : Int) < (m : Int)) = true ∧ IntKind.i64.wrap ((a : Int) + (i : Int)) = (a : Int) + (i : Int) ∧
    0 ≤ (a : Int) + (i : Int) ∧ (a : Int) + (i : Int) < (m : Int) + 4 ∧ ((a : Int) + (i : Int)).toNat = a + i ∧ (i : Int) < 4 ∧ (0 : Int) ≤ (i : Int) :=
  ⟨decide_eq_true (by omega), decide_eq_true (by omega), IntWalk.i64_in _ (by omega), by omega, by omega, by omega, by omega, by omega⟩
theorem Unpack_lit {w : World} {A : Option Addr} {n c : Nat} {l : List UInt8} {R : Nat × List Ev × Nat} (h : IsB w A n c l) (hn : n ≤ 1000000) (hs : unpackOf l = R) :
    Calls Try.prog 36 #[.slice A n c] w fun e w' => (∃ B b d, e = .returned (.tuple #[.int .i64 (R.1 : Int), .slice B b d, .int .i64 (R.2.2 : Int)]) ∧ IsEv w' B b d R.2.1 ∧ b = R.2.1.length) ∧ Below w.heap.size w w' := by
  refine (Unpack_any A n c l w h hn).mono ?_
  rintro e w' ⟨⟨v, rfl, hO⟩, hb⟩
  rw [hs] at hO ⊢
  obtain ⟨B, b, d, rfl, hI, hbl, -⟩ := hO.is_
  exact ⟨⟨B, b, d, rfl, hI, hbl⟩, hb⟩

set_option maxRecDepth 100000 in
set_option maxHeartbeats 2000000 in
theorem sgturned_walk (f : Nat) (A : Option Addr) (n c : Nat) (es : List Ev) (at_ : Int) (u0 u1 u2 u3 : UInt8) (w : World) (h : IsEv w A n c es) (hok : ∀ x ∈ es, x.ok) (hf : f < 4294967296) (hat : In64 at_) (hn : n ≤ maxLen) :
    Calls Try.prog 12 #[.int .u32 (f : Int), .slice A n c, .int .i64 at_, .agg #[.int .u8 (u0.toNat : Int), .int .u8 (u1.toNat : Int), .int .u8 (u2.toNat : Int), .int .u8 (u3.toNat : Int)]] w fun e w' => e = .returned (.bool true) ∧ Below w.heap.size w w' := by
  unfold maxLen at hn
  have hB1 : Below w.heap.size w (w.alloc (.cells #[.int .u8 (u0.toNat : Int), .int .u8 (u1.toNat : Int), .int .u8 (u2.toNat : Int), .int .u8 (u3.toNat : Int)] 66)) := (Below.refl _ w).alloc (Nat.le_refl _) _
  by_cases h0 : n = 0
  · subst h0
    clear h hok
    go_enter Try.func12, Try.ntmps12
    go_wp2_with fail
    refine (awake4_any _).mono ?_
    rintro e w9 ⟨rfl, hb9⟩
    go_wp2_with fail
    go_ret
    exact ⟨rfl, bstep0 hB1 hb9⟩
  have d0 : ((n : Int) == 0) = false := by simp; omega
  by_cases h1 : 100 < n
  · have d1 : decide ((100 : Int) < (n : Int)) = true := by simp; omega
    clear h hok
    go_enter Try.func12, Try.ntmps12
    go_wp2_with fail
    refine (awake4_any _).mono ?_
    rintro e w9 ⟨rfl, hb9⟩
    go_wp2_with fail
    go_ret
    exact ⟨rfl, bstep0 hB1 hb9⟩
  have d1 : decide ((100 : Int) < (n : Int)) = false := by simp; omega
  have hlen := h.len
  have hq1 : (w.alloc (.cells #[.int .u8 (u0.toNat : Int), .int .u8 (u1.toNat : Int), .int .u8 (u2.toNat : Int), .int .u8 (u3.toNat : Int)] 66)).heap[w.heap.size]? = some (.cells #[.int .u8 (u0.toNat : Int), .int .u8 (u1.toNat : Int), .int .u8 (u2.toNat : Int), .int .u8 (u3.toNat : Int)] 66 (0, 0)) := heap_alloc_new _ _
  have hI1 := h.below hB1
  have ef := nat_i64 f (by omega)
  have HF := Lib.hid (Pack_any f A n c es _ hI1 (by omega) (by omega) hok (by omega))
  obtain ⟨m, hm⟩ : ∃ m, Hid (m = (denseOf f es).length) := ⟨_, rfl⟩
  have hN : (sealed (denseOf f es)).length = m + 4 := by unfold sealed; rw [List.length_append, sumBytes_length, hm.out]
  have hm1 : m ≤ 170000 := by
    have := dense_most f es (by omega) (by omega)
    omega
  have hm0 : 1 ≤ m := by
    rw [hm.out]
    unfold denseOf
    have := beginOf_length (mark := denseMark) rfl f
    rw [List.length_append]
    omega
  have hun := unpackOf_pack (first := f) (es := es) (by omega) (by omega) (by omega) hok
  have HUN := Lib.hid hun
  have HQ1 := Lib.hid hq1
  have HB1 := Lib.hid hB1
  have HLEN := Lib.hid hlen
  have HH := Lib.hid h
  clear h hok hq1 hI1 hlen hB1 h0 hun
  go_enter Try.func12, Try.ntmps12
  go_wp2_with fail
  generalize w.alloc (.cells #[.int .u8 (u0.toNat : Int), .int .u8 (u1.toNat : Int), .int .u8 (u2.toNat : Int), .int .u8 (u3.toNat : Int)] 66) = W1 at HF HQ1 HB1 ⊢
  refine HF.out.mono ?_
  rintro e w2 ⟨v, rfl, ho, hb2⟩
  obtain ⟨g, cg, rfl, hg, hgl, hM⟩ := own_mine_at (n := m + 4) ho hN (by omega)
  have hz1 := HB1.out.size
  have hq2 := (hb2.block _ (Array.getElem?_eq_some_iff.1 HQ1.out).1).trans HQ1.out
  have hB2 := HB1.out.trans (hb2.mono hz1)
  have hgw : w.heap.size < g := by have := (Array.getElem?_eq_some_iff.1 HQ1.out).1; omega
  have hpush : ((m + 4 : Nat) : Int) = (m : Int) + 4 := by omega
  have e1 : wrap64 ((m : Int) + 4 - 4) = (m : Int) := by unfold wrap64; omega
  have e3 : (m : Int) + 4 - 4 = (m : Int) := by omega
  have d3 : decide ((m : Int) < 1) = false := by simp; omega
  have HM := Lib.hid hM
  have HQ2 := Lib.hid hq2
  have HB2 := Lib.hid hB2
  clear HF HQ1 HB1 ho hb2 hM hq2 hB2 hg
  go_wp2_with fail
  refine (pick_any at_ m _ (by omega) hat).mono ?_
  rintro e w' ⟨rfl, rfl⟩
  have ha := pickOf_lt at_ (n := m) (by omega)
  generalize pickOf at_ m = a at ha
  clear e1 e3 d3 d0 d1
  go_wp2_with fail
  have ng : ¬ (w.heap.size = g) := by omega
  have lg : w.heap.size ≤ g := by omega
  have HNN := Lib.hid hN
  have HN1 : Hid (n ≤ 100) := by show n ≤ 100; omega
  clear hn h1 hgl hz1 hgw hpush hN hm0
  obtain ⟨t, ht⟩ : ∃ t, Hid (t = [u0, u1, u2, u3]) := ⟨_, rfl⟩
  have htl : t.length = 4 := by rw [ht.out]; rfl
  have HAT := Lib.hid (four_at ht.out)
  obtain ⟨b, hb⟩ : ∃ b, Hid (b = denseOf f es) := ⟨_, rfl⟩
  have hbm : Hid (b.length = m) := by show _ = _; rw [hb.out, hm.out]
  have hM0 : Mine w2 g 5 cg (turned_ b a 0 t ++ sumBytes (crc b)) := by rw [turned_zero, hb.out]; exact HM.out
  have hq0 := HQ2.out
  have hB0 := HB2.out
  go_loopw [12, 13] (fun ch q wr => ∃ i : Nat, q = .int .i64 (i : Int) ∧ i ≤ 4 ∧ a + i ≤ m ∧ ch = .bool (chgOf t i) ∧ Mine wr g 5 cg (turned_ b a i t ++ sumBytes (crc b)) ∧
    wr.heap[w.heap.size]? = some (.cells #[.int .u8 (u0.toNat : Int), .int .u8 (u1.toNat : Int), .int .u8 (u2.toNat : Int), .int .u8 (u3.toNat : Int)] 66 (0, 0)) ∧ Below w.heap.size w wr) (fun _ q _ => 4 - (intOf q).toNat)
  case atStart => exact ⟨0, rfl, by omega, by omega, rfl, hM0, hq0, hB0⟩
  case round =>
    clear hM0 hq0 hB0
    obtain ⟨i, rfl, hi4, hai, rfl, hMr, hqr, hBr⟩ := hrel
    have z1 : wrap64 ((a : Int) + (i : Int)) = (a : Int) + (i : Int) := sum_small hai hm1
    by_cases hgo : i < 4 ∧ a + i < m
    · obtain ⟨hi, ham⟩ := hgo
      obtain ⟨q1, q2, r1, b0, b1, bt, b2, b3⟩ := sg_arith hi ham hm1
      obtain ⟨u, hu⟩ : ∃ u, t[i]? = some u := ⟨t[i]'(by rw [htl]; exact hi), List.getElem?_eq_getElem _⟩
      obtain ⟨x, hx, x0⟩ := sg_cell hMr hbm.out ham
      have y0 : wr.cell? ⟨w.heap.size, i, none⟩ = some (.int .u8 (u.toNat : Int)) := by
        rw [cell_of_row _ _ i _ _ _ hqr]
        exact HAT.out i u hu
      have f0 := hMr.free (a + i)
      have hMn := sg_put hMr hbm.out ham hx hu
      have hAn := Away.setCell wr ⟨g, a + i, none⟩ (.int .u8 (bits .xor .u8 (x.toNat : Int) (u.toNat : Int)))
      have hqn := (hAn.block w.heap.size (Array.getElem?_eq_some_iff.1 hqr).1 ng).trans hqr
      have hBn := hBr.setCell (p := ⟨g, a + i, none⟩) lg (.int .u8 (bits .xor .u8 (x.toNat : Int) (u.toNat : Int)))
      have HMn := Lib.hid hMn
      have HQn := Lib.hid hqn
      have HBn := Lib.hid hBn
      have HU := Lib.hid hu
      clear hMn hqn hBn hAn hu hx hMr hBr
      go_wp2_with fail
      have yn : (wr.setCell ⟨g, a + i, none⟩ (.int .u8 (bits .xor .u8 (x.toNat : Int) (u.toNat : Int)))).cell? ⟨w.heap.size, i, none⟩ = some (.int .u8 (u.toNat : Int)) := by
        rw [cell_of_row _ _ i _ _ _ HQn.out]
        exact HAT.out i u HU.out
      refine wp_region_held_drew (S := fun w' => w'.cell? ⟨w.heap.size, i, none⟩ = some (.int .u8 (u.toNat : Int))) (by kernel_rfl) y0 (fun hHeld => ?_)
      refine wpAnyH_take (i := 0) (v := ?_) rfl (by kernel_rfl) (by kernel_rfl) (by kernel_rfl) (fun _ _ _ h => h) (Or.inl ⟨by rfl, ?_⟩) hHeld ?_
      rotate_left
      · (intro w hSw; (try dsimp only at hSw); go_simp <;> rfl)
      simp only [Act.put, List.getElem_toArray, List.getElem_cons_zero, List.getElem_cons_succ, List.setIfInBounds_toArray, List.set_cons_zero, List.set_cons_succ]
      refine wpAnyH_take (i := 1) (v := ?_) rfl (by kernel_rfl) (by kernel_rfl) (by kernel_rfl) (fun _ _ _ h => h) (Or.inl ⟨by rfl, ?_⟩) hHeld ?_
      rotate_left
      · (intro w hSw; (try dsimp only at hSw); go_simp <;> rfl)
      simp only [Act.put, List.getElem_toArray, List.getElem_cons_zero, List.getElem_cons_succ, List.setIfInBounds_toArray, List.set_cons_zero, List.set_cons_succ]
      refine wpAnyH_take (i := 2) (v := ?_) rfl (by kernel_rfl) (by kernel_rfl) (by kernel_rfl) (fun _ _ _ h => h) (Or.inl ⟨by rfl, ?_⟩) hHeld ?_
      rotate_left
      · (intro w hSw; (try dsimp only at hSw); go_simp <;> rfl)
      simp only [Act.put, List.getElem_toArray, List.getElem_cons_zero, List.getElem_cons_succ, List.setIfInBounds_toArray, List.set_cons_zero, List.set_cons_succ]
      refine wpAnyH_take (i := 3) (v := ?_) rfl (by kernel_rfl) (by kernel_rfl) (by kernel_rfl) (fun _ _ _ h => h) (Or.inl ⟨by rfl, ?_⟩) hHeld ?_
      rotate_left
      · (intro w hSw; (try dsimp only at hSw); go_simp <;> rfl)
      simp only [Act.put, List.getElem_toArray, List.getElem_cons_zero, List.getElem_cons_succ, List.setIfInBounds_toArray, List.set_cons_zero, List.set_cons_succ]
      refine wpAnyH_take (i := 4) (v := ?_) rfl (by kernel_rfl) (by kernel_rfl) (by kernel_rfl) (fun _ _ _ h => h) (Or.inl ⟨by rfl, ?_⟩) hHeld ?_
      rotate_left
      · (intro w hSw; (try dsimp only at hSw); go_simp <;> rfl)
      simp only [Act.put, List.getElem_toArray, List.getElem_cons_zero, List.getElem_cons_succ, List.setIfInBounds_toArray, List.set_cons_zero, List.set_cons_succ]
      refine wpAnyH_take (i := 6) (v := ?_) rfl (by kernel_rfl) (by kernel_rfl) (by kernel_rfl) (fun _ _ _ h => h) (Or.inl ⟨by rfl, ?_⟩) hHeld ?_
      rotate_left
      · (intro w hSw; (try dsimp only at hSw); go_simp <;> rfl)
      simp only [Act.put, List.getElem_toArray, List.getElem_cons_zero, List.getElem_cons_succ, List.setIfInBounds_toArray, List.set_cons_zero, List.set_cons_succ]
      refine wpAnyH_take (i := 7) (v := ?_) rfl (by kernel_rfl) (by kernel_rfl) (by kernel_rfl) (fun _ _ _ h => h) (Or.inl ⟨by rfl, ?_⟩) hHeld ?_
      rotate_left
      · (intro w hSw; (try dsimp only at hSw); go_simp <;> rfl)
      simp only [Act.put, List.getElem_toArray, List.getElem_cons_zero, List.getElem_cons_succ, List.setIfInBounds_toArray, List.set_cons_zero, List.set_cons_succ]
      refine wpAnyH_take (i := 8) (v := ?_) rfl (by kernel_rfl) (by kernel_rfl) (by kernel_rfl) (fun _ _ _ h => h) (Or.inl ⟨by rfl, ?_⟩) hHeld ?_
      rotate_left
      · (intro w hSw; (try dsimp only at hSw); go_simp <;> rfl)
      simp only [Act.put, List.getElem_toArray, List.getElem_cons_zero, List.getElem_cons_succ, List.setIfInBounds_toArray, List.set_cons_zero, List.set_cons_succ]
      refine wpAnyH_ready (rs := [5]) (by kernel_rfl) (by simp) ?_
      refine AllReadyH.cons rfl (fun K hK => ?_) AllReadyH.nil
      go_simp
      refine hK.out _ _ hHeld (fun hHeld => ?_)
      clear hK K
      try simp only [Act.put, List.getElem_toArray, List.getElem_cons_zero, List.getElem_cons_succ, List.setIfInBounds_toArray, List.set_cons_zero, List.set_cons_succ]
      refine wpAnyH_take (i := 9) (v := ?_) rfl (by kernel_rfl) (by kernel_rfl) (by kernel_rfl) (fun _ _ _ h => h) (Or.inl ⟨by rfl, ?_⟩) hHeld ?_
      rotate_left
      · (intro w hSw; (try dsimp only at hSw); go_simp <;> rfl)
      simp only [Act.put, List.getElem_toArray, List.getElem_cons_zero, List.getElem_cons_succ, List.setIfInBounds_toArray, List.set_cons_zero, List.set_cons_succ]
      refine wpAnyH_take (i := 10) (v := ?_) rfl (by kernel_rfl) (by kernel_rfl) (by kernel_rfl) (fun _ _ _ h => h) (Or.inl ⟨by rfl, ?_⟩) hHeld ?_
      rotate_left
      · (intro w hSw; (try dsimp only at hSw); go_simp <;> rfl)
      simp only [Act.put, List.getElem_toArray, List.getElem_cons_zero, List.getElem_cons_succ, List.setIfInBounds_toArray, List.set_cons_zero, List.set_cons_succ]
      refine wpAnyH_ready (rs := [11]) (by kernel_rfl) (by simp) ?_
      refine AllReadyH.cons rfl (fun K hK => ?_) AllReadyH.nil
      go_simp
      refine hK.out _ _ yn (fun hHeld => ?_)
      clear hK K
      try simp only [Act.put, List.getElem_toArray, List.getElem_cons_zero, List.getElem_cons_succ, List.setIfInBounds_toArray, List.set_cons_zero, List.set_cons_succ]
      refine wpAnyH_done (by kernel_rfl) ?_ _
      have hq3 := HQn.out
      have hM3 := HMn.out
      have hB3 := HBn.out
      have yn' := yn
      generalize wr.setCell ⟨g, a + i, none⟩ (.int .u8 (bits .xor .u8 (x.toNat : Int) (u.toNat : Int))) = w3 at hq3 hM3 hB3 yn' ⊢
      have hch := chgOf_step HU.out
      rw [← bne_byte] at hch
      clear x0 y0 f0 r1 b0 b1 bt q1 q2 hHeld yn hqr z1
      have HCH := Lib.hid hch
      clear hch
      cases hc : chgOf t i with
      | true =>
        rw [hc] at HCH
        clear hc yn'
        go_wp2_with fail
        go_roundw
        case rel => exact ⟨i + 1, by go_num, hi, ham, by rw [HCH.out]; rfl, hM3.drew, hq3, hB3.drew⟩
        case measure => simp [intOf]; omega
      | false =>
        rw [hc] at HCH
        clear hc
        go_wp2_with fail
        go_roundw
        case rel => exact ⟨i + 1, by go_num, hi, ham, by rw [HCH.out]; rfl, hM3.drew, hq3, hB3.drew⟩
        case measure => simp [intOf]; omega
    · have hLl : (turned_ b a i t ++ sumBytes (crc b)).length = m + 4 := by
        rw [List.length_append, sumBytes_length, turned_length, hbm.out]
      have hIs := hMr.is_ hLl
      have hsm : m + 4 ≤ 1000000 := by omega
      obtain ⟨R, hR, hRR⟩ : ∃ R, unpackOf (turned_ b a i t ++ sumBytes (crc b)) = R ∧ Hid (R = if chgOf t i then (0, [], 12) else (f, es, 0)) := by
        refine ⟨_, rfl, ?_⟩
        show _ = _
        cases hc : chgOf t i with
        | true =>
          rw [if_pos rfl]
          exact unpackOf_sum rfl fun e => chgOf_true hc (turned_crc hi4 htl (by rw [hbm.out]; exact hai) (sumBytes_inj (crc_lt _) (crc_lt _) e.symm))
        | false =>
          rw [if_neg (by simp), turned_none (chgOf_false hc), hb.out]
          exact HUN.out
      have HRD := Lib.hid (Unpack_lit hIs hsm hR)
      clear hR hMr hqr hLl hIs
      have HIE := Lib.hid (HH.out.below hBr)
      have hzr := hBr.size
      have HEL := HLEN.out
      by_cases hi : i < 4
      case' pos =>
        have ham : a + i = m := by
          by_cases e : a + i = m
          · exact e
          · exact absurd ⟨hi, Nat.lt_of_le_of_ne hai e⟩ hgo
        have q1 : decide ((i : Int) < 4) = true := decide_eq_true (by omega)
        have q2 : decide ((a : Int) + (i : Int) < (m : Int)) = false := decide_eq_false (by omega)
        clear ham hgo hai hi4 HEL
        go_wp2_with fail
      case' neg =>
        have q1 : decide ((i : Int) < 4) = false := decide_eq_false (by omega)
        clear hgo hai hi4 HEL
        go_wp2_with fail
      all_goals
        refine HRD.out.mono ?_
        rintro e w5 ⟨⟨B, m5, d5, rfl, hO, hm5⟩, hb5⟩
        have hB5 := hBr.trans (hb5.mono hzr)
        have hIE5 := HIE.out.below hb5
        cases hc : chgOf t i with
        | true =>
          rw [hc, if_pos rfl] at hRR
          have hRe := hRR.out
          subst hRe
          have hm50 : m5 = 0 := hm5
          subst hm50
          clear hO hm5 hRR HRD HIE hIE5 hc
          go_wp2_with fail
          refine (awake4_any _).mono ?_
          rintro e w9 ⟨rfl, hb9⟩
          go_wp2_with fail
          go_ret
          exact ⟨rfl, bstep0 hB5 hb9⟩
        | false =>
          rw [hc, if_neg (by simp)] at hRR
          have hRe := hRR.out
          subst hRe
          have hm5' : m5 ≤ 1000000 := by
            have h9 : m5 = es.length := hm5
            rw [h9, HLEN.out]
            have := HN1.out
            omega
          have HS := Lib.hid (same_evs hO hIE5 hm5' (by have := HN1.out; omega))
          clear hO hm5 hRR HRD HIE hIE5 hc
          go_wp2_with fail
          refine HS.out.mono ?_
          rintro e w6 ⟨rfl, hb6⟩
          have hB6 := bstep0 hB5 hb6
          clear hb6 HS
          go_wp2_with fail
          refine (awake4_any _).mono ?_
          rintro e w9 ⟨rfl, hb9⟩
          go_wp2_with fail
          go_ret
          exact ⟨rfl, bstep0 hB6 hb9⟩
end Go.Proofs.Ytinakeabbgphlaa
