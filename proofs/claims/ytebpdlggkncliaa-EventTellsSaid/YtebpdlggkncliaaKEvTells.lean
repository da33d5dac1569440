/-
  EventTells: the law's walk.
-/
import Derived.Test.YtebpdlggkncliaaKEvTellsA
import Derived.Deep.QuietTactic
import Derived.Deep.CutRange
set_option linter.unusedVariables false
set_option linter.unusedSimpArgs false
namespace Go.Proofs.Ytebpdlggkncliaa
open Go.RowKit
open Go.Lib (byteCells byteCells_length byteCells_append uvarint)

theorem heap_below {w w' : World} {b : Nat} {o : Obj} (hb : Below w.heap.size w w') (h : w.heap[b]? = some o) : w'.heap[b]? = some o := (hb.block _ (Array.getElem?_eq_some_iff.1 h).1).trans h
/-- what the law has in memory -/
structure EtS (p e : Ev) (es : List Ev) (l : List UInt8) (A : Option Addr) (n c : Nat) (B : Option Addr) (m d : Nat) (C : Option Addr) (cc : Nat) (D : Option Addr) (dd : Nat) (g1 g2 : Nat) (w : World) : Prop where
  a : IsEv w A n c es
  b : IsB w B m d l
  i : IsB w C m cc l
  o : IsEv w D n dd es
  p : w.heap[g1]? = some (.cells #[.int .i64 p.th, .int .u8 (p.op : Int), .int .i64 p.obj, .int .i64 p.a, .int .i64 p.b] 70 (0, 0))
  e : w.heap[g2]? = some (.cells #[.int .i64 e.th, .int .u8 (e.op : Int), .int .i64 e.obj, .int .i64 e.a, .int .i64 e.b] 70 (0, 0))
theorem EtS.below {p e : Ev} {es : List Ev} {l : List UInt8} {A : Option Addr} {n c : Nat} {B : Option Addr} {m d : Nat} {C : Option Addr} {cc : Nat} {D : Option Addr} {dd : Nat} {g1 g2 : Nat} {w w' : World} (h : EtS p e es l A n c B m d C cc D dd g1 g2 w) (hb : Below w.heap.size w w') : EtS p e es l A n c B m d C cc D dd g1 g2 w' :=
  ⟨h.a.below hb, h.b.below hb, h.i.below hb, h.o.below hb, heap_below hb h.p, heap_below hb h.e⟩
set_option maxRecDepth 100000 in
set_option maxHeartbeats 8000000 in
theorem evTells_walk (p e : Ev) (hp : p.ok) (he : e.ok) (A : Option Addr) (n c : Nat) (es : List Ev) (B : Option Addr) (m d : Nat) (l : List UInt8) (at_ : Int) (w : World) (hE : IsEv w A n c es) (hok : ∀ x ∈ es, x.ok) (hI : IsB w B m d l) (hn : n ≤ maxLen) (hm : m ≤ maxLen) :
    Calls Try.prog 6 #[.agg #[.int .i64 p.th, .int .u8 (p.op : Int), .int .i64 p.obj, .int .i64 p.a, .int .i64 p.b], .agg #[.int .i64 e.th, .int .u8 (e.op : Int), .int .i64 e.obj, .int .i64 e.a, .int .i64 e.b], .slice A n c, .slice B m d, .int .i64 at_] w fun x w' => x = .returned (.bool true) ∧ Below w.heap.size w w' := by
  obtain ⟨hB0, q1, q2⟩ : Below w.heap.size w ((w.alloc (.cells #[.int .i64 p.th, .int .u8 (p.op : Int), .int .i64 p.obj, .int .i64 p.a, .int .i64 p.b] 70)).alloc (.cells #[.int .i64 e.th, .int .u8 (e.op : Int), .int .i64 e.obj, .int .i64 e.a, .int .i64 e.b] 70)) ∧ ((w.alloc (.cells #[.int .i64 p.th, .int .u8 (p.op : Int), .int .i64 p.obj, .int .i64 p.a, .int .i64 p.b] 70)).alloc (.cells #[.int .i64 e.th, .int .u8 (e.op : Int), .int .i64 e.obj, .int .i64 e.a, .int .i64 e.b] 70)).heap[w.heap.size]? = some (.cells #[.int .i64 p.th, .int .u8 (p.op : Int), .int .i64 p.obj, .int .i64 p.a, .int .i64 p.b] 70 (0, 0)) ∧ ((w.alloc (.cells #[.int .i64 p.th, .int .u8 (p.op : Int), .int .i64 p.obj, .int .i64 p.a, .int .i64 p.b] 70)).alloc (.cells #[.int .i64 e.th, .int .u8 (e.op : Int), .int .i64 e.obj, .int .i64 e.a, .int .i64 e.b] 70)).heap[w.heap.size + 1]? = some (.cells #[.int .i64 e.th, .int .u8 (e.op : Int), .int .i64 e.obj, .int .i64 e.a, .int .i64 e.b] 70 (0, 0)) := by
    have hz : (w.alloc (.cells #[.int .i64 p.th, .int .u8 (p.op : Int), .int .i64 p.obj, .int .i64 p.a, .int .i64 p.b] 70)).heap.size = w.heap.size + 1 := Array.size_push _
    refine ⟨((Below.refl _ w).alloc (Nat.le_refl _) _).alloc (by rw [hz]; omega) _, (heap_alloc_old _ _ (by rw [hz]; omega)).trans (heap_alloc_new _ _), ?_⟩
    have := heap_alloc_new (w.alloc (.cells #[.int .i64 p.th, .int .u8 (p.op : Int), .int .i64 p.obj, .int .i64 p.a, .int .i64 p.b] 70)) (.cells #[.int .i64 e.th, .int .u8 (e.op : Int), .int .i64 e.obj, .int .i64 e.a, .int .i64 e.b] 70)
    rwa [hz] at this
  by_cases h1 : 300 < n
  · have d1 : decide ((300 : Int) < (n : Int)) = true := decide_eq_true (by omega)
    clear h1 q1 q2
    go_enter Try.func6, Try.ntmps6
    go_wp2_with fail
    generalize ((w.alloc (.cells #[.int .i64 p.th, .int .u8 (p.op : Int), .int .i64 p.obj, .int .i64 p.a, .int .i64 p.b] 70)).alloc (.cells #[.int .i64 e.th, .int .u8 (e.op : Int), .int .i64 e.obj, .int .i64 e.a, .int .i64 e.b] 70)) = W0 at hB0 ⊢
    refine (awake3_any W0).mono ?_
    rintro x w1 ⟨rfl, hb1⟩
    go_wp2_with fail
    go_ret
    exact ⟨rfl, hB0.trans (hb1.mono hB0.size)⟩
  by_cases h2 : 2000 < m
  · have d1 : decide ((300 : Int) < (n : Int)) = false := decide_eq_false (by omega)
    have d2 : decide ((2000 : Int) < (m : Int)) = true := decide_eq_true (by omega)
    clear h1 h2 q1 q2
    go_enter Try.func6, Try.ntmps6
    go_wp2_with fail
    generalize ((w.alloc (.cells #[.int .i64 p.th, .int .u8 (p.op : Int), .int .i64 p.obj, .int .i64 p.a, .int .i64 p.b] 70)).alloc (.cells #[.int .i64 e.th, .int .u8 (e.op : Int), .int .i64 e.obj, .int .i64 e.a, .int .i64 e.b] 70)) = W0 at hB0 ⊢
    refine (awake3_any W0).mono ?_
    rintro x w1 ⟨rfl, hb1⟩
    go_wp2_with fail
    go_ret
    exact ⟨rfl, hB0.trans (hb1.mono hB0.size)⟩
  have d1 : decide ((300 : Int) < (n : Int)) = false := decide_eq_false (by omega)
  have d2 : decide ((2000 : Int) < (m : Int)) = false := decide_eq_false (by omega)
  have hn3 : n ≤ 300 := by omega
  have hm2 : m ≤ 2000 := by omega
  obtain ⟨fr, er, hF1, hF2⟩ := frames_both es (by rw [hE.len]; omega) hok
  obtain ⟨x, xi, xf, hG1, hG2⟩ := gets_both p l at_ (by rw [hI.len]; omega)
  obtain ⟨rs, ri, rf, hrs, hR1, hR2⟩ := reads_both l at_ (by rw [hI.len]; omega)
  unfold ansE at hG1 hG2
  dsimp only at hG1 hG2
  have HF1 := Lib.hid hF1
  have HF2 := Lib.hid hF2
  have HG1 := Lib.hid hG1
  have HG2 := Lib.hid hG2
  have HR1 := Lib.hid hR1
  have HR2 := Lib.hid hR2
  have HE0 := Lib.hid (hE.below hB0)
  have HI0 := Lib.hid (hI.below hB0)
  have hEQ := fun W => run_eqEv x x W
  simp only [decide_true] at hEQ
  clear h1 h2 hF1 hF2 hG1 hG2 hR1 hR2 hE hI
  go_enter Try.func6, Try.ntmps6
  go_wp2_with fail
  generalize ((w.alloc (.cells #[.int .i64 p.th, .int .u8 (p.op : Int), .int .i64 p.obj, .int .i64 p.a, .int .i64 p.b] 70)).alloc (.cells #[.int .i64 e.th, .int .u8 (e.op : Int), .int .i64 e.obj, .int .i64 e.a, .int .i64 e.b] 70)) = W0 at hB0 q1 q2 HE0 HI0 ⊢
  have HP0 := Lib.hid q1
  have HQ0 := Lib.hid q2
  clear q1 q2
  refine (copybytes_any HI0.out (by omega)).mono ?_
  rintro z w1 ⟨C, cc, rfl, hSp, hb1⟩
  have hi1 := hSp.is_
  have HB1 := Lib.hid (hB0.trans (hb1.mono hB0.size))
  have HP1 := Lib.hid (heap_below hb1 HP0.out)
  have HQ1 := Lib.hid (heap_below hb1 HQ0.out)
  have HE1 := Lib.hid (HE0.out.below hb1)
  have HI1 := Lib.hid (HI0.out.below hb1)
  have HC1 := Lib.hid hi1
  clear hSp hb1 hi1 hB0 HP0 HQ0 HE0 HI0
  go_wp2_with fail
  refine (copyevents_any HE1.out (by omega)).mono ?_
  rintro z w2 ⟨vo, rfl, hOw, hb2⟩
  obtain ⟨D, n2, dd, rfl, hEo, hno, -⟩ := hOw.is_
  obtain rfl : n2 = n := hno.trans HE1.out.len
  have HS := Lib.hid (EtS.mk (HE1.out.below hb2) (HI1.out.below hb2) (HC1.out.below hb2) hEo (heap_below hb2 HP1.out) (heap_below hb2 HQ1.out))
  have HB := Lib.hid (HB1.out.trans (hb2.mono HB1.out.size))
  obtain ⟨k0, k1, k2, k3, k4⟩ := cells5 HS.out.p
  clear hno hOw hEo hb2 HB1 HP1 HQ1 HE1 HI1 HC1
  go_wp2_with fail
  refine (HG1.out w2 C m cc HS.out.i).mono ?_
  rintro z w3 ⟨rfl, hb3⟩
  have HS3 := Lib.hid (HS.out.below hb3)
  have HB3 := Lib.hid (HB.out.trans (hb3.mono HB.out.size))
  have hx3 : (w3.alloc (.cells #[.int .i64 x.th, .int .u8 (x.op : Int), .int .i64 x.obj, .int .i64 x.a, .int .i64 x.b] 70)).heap[w3.heap.size]? = some (.cells #[.int .i64 x.th, .int .u8 (x.op : Int), .int .i64 x.obj, .int .i64 x.a, .int .i64 x.b] 70 (0, 0)) := heap_alloc_new _ _
  have hb4 : Below w3.heap.size w3 (w3.alloc (.cells #[.int .i64 x.th, .int .u8 (x.op : Int), .int .i64 x.obj, .int .i64 x.a, .int .i64 x.b] 70)) := (Below.refl _ _).alloc (Nat.le_refl _) _
  have HS4 := Lib.hid (HS3.out.below hb4)
  have HB4 := Lib.hid (HB3.out.trans (hb4.mono HB3.out.size))
  have HX4 := Lib.hid hx3
  clear k0 k1 k2 k3 k4 hb3 HG1 HS HB hb4 hx3
  obtain ⟨k0, k1, k2, k3, k4⟩ := cells5 HS4.out.p
  go_wp2_with fail
  obtain ⟨g3, hg3⟩ : ∃ g, Hid (g = w3.heap.size) := ⟨_, rfl⟩
  rw [← hg3.out] at HX4 ⊢
  generalize w3.alloc (.cells #[.int .i64 x.th, .int .u8 (x.op : Int), .int .i64 x.obj, .int .i64 x.a, .int .i64 x.b] 70) = w4 at HS4 HB4 HX4 k0 k1 k2 k3 k4 ⊢
  clear hg3 HS3 HB3
  refine (HG2.out w4 B m d HS4.out.b).mono ?_
  rintro z w5 ⟨rfl, hb5⟩
  have HS5 := Lib.hid (HS4.out.below hb5)
  have HB5 := Lib.hid (HB4.out.trans (hb5.mono HB4.out.size))
  have HX5 := Lib.hid (heap_below hb5 HX4.out)
  have hx5 : (w5.alloc (.cells #[.int .i64 x.th, .int .u8 (x.op : Int), .int .i64 x.obj, .int .i64 x.a, .int .i64 x.b] 70)).heap[w5.heap.size]? = some (.cells #[.int .i64 x.th, .int .u8 (x.op : Int), .int .i64 x.obj, .int .i64 x.a, .int .i64 x.b] 70 (0, 0)) := heap_alloc_new _ _
  have hb6 : Below w5.heap.size w5 (w5.alloc (.cells #[.int .i64 x.th, .int .u8 (x.op : Int), .int .i64 x.obj, .int .i64 x.a, .int .i64 x.b] 70)) := (Below.refl _ _).alloc (Nat.le_refl _) _
  have HS6 := Lib.hid (HS5.out.below hb6)
  have HB6 := Lib.hid (HB5.out.trans (hb6.mono HB5.out.size))
  have HX6 := Lib.hid (heap_below hb6 HX5.out)
  have HY6 := Lib.hid hx5
  clear k0 k1 k2 k3 k4 hb5 HG2 HS4 HB4 HX4 hb6 hx5
  go_wp2_with fail
  obtain ⟨g5, hg5⟩ : ∃ g, Hid (g = w5.heap.size) := ⟨_, rfl⟩
  rw [← hg5.out] at HY6 ⊢
  generalize w5.alloc (.cells #[.int .i64 x.th, .int .u8 (x.op : Int), .int .i64 x.obj, .int .i64 x.a, .int .i64 x.b] 70) = w6 at HS6 HB6 HX6 HY6 ⊢
  clear hg5 HS5 HB5 HX5
  refine (HF1.out w6 D n2 dd HS6.out.o).mono ?_
  rintro z w7 ⟨⟨v7, rfl, ho7⟩, hb7⟩
  obtain ⟨A7, n7, c7, rfl, hi7⟩ := own_slice ho7
  have HS7 := Lib.hid (HS6.out.below hb7)
  have HB7 := Lib.hid (HB6.out.trans (hb7.mono HB6.out.size))
  have HX7 := Lib.hid (heap_below hb7 HX6.out)
  have HY7 := Lib.hid (heap_below hb7 HY6.out)
  have HI7 := Lib.hid hi7
  clear hb7 ho7 hi7 HF1 HS6 HB6 HX6 HY6
  go_wp2_with fail
  refine (HF2.out w7 A n2 c HS7.out.a).mono ?_
  rintro z w8 ⟨⟨v8, rfl, ho8⟩, hb8⟩
  obtain ⟨A8, n8, c8, rfl, hi8⟩ := own_slice ho8
  have HS8 := Lib.hid (HS7.out.below hb8)
  have HB8 := Lib.hid (HB7.out.trans (hb8.mono HB7.out.size))
  have HX8 := Lib.hid (heap_below hb8 HX7.out)
  have HY8 := Lib.hid (heap_below hb8 HY7.out)
  have HI8 := Lib.hid (HI7.out.below hb8)
  have HJ8 := Lib.hid hi8
  clear hb8 ho8 hi8 HF2 HS7 HB7 HX7 HY7 HI7
  go_wp2_with fail
  refine (HR1.out w8 C m cc HS8.out.i).mono ?_
  rintro z w9 ⟨⟨v9, rfl, ho9⟩, hb9⟩
  obtain ⟨A9, n9, c9, rfl, hi9, hn9, -⟩ := ho9.is_
  have hn9' : n9 ≤ 4096 := by rw [hn9]; exact hrs
  have HS9 := Lib.hid (HS8.out.below hb9)
  have HB9 := Lib.hid (HB8.out.trans (hb9.mono HB8.out.size))
  have HX9 := Lib.hid (heap_below hb9 HX8.out)
  have HY9 := Lib.hid (heap_below hb9 HY8.out)
  have HI9 := Lib.hid (HI8.out.below hb9)
  have HJ9 := Lib.hid (HJ8.out.below hb9)
  have HK9 := Lib.hid hi9
  clear hb9 ho9 hi9 hn9 HR1 HS8 HB8 HX8 HY8 HI8 HJ8
  go_wp2_with fail
  refine (HR2.out w9 B m d HS9.out.b).mono ?_
  rintro z wA ⟨⟨vA, rfl, hoA⟩, hbA⟩
  obtain ⟨AA, nA, cA, rfl, hiA, hnA, -⟩ := hoA.is_
  have hnA' : nA ≤ 4096 := by rw [hnA]; exact hrs
  have HSA := Lib.hid (HS9.out.below hbA)
  have HBA := Lib.hid (HB9.out.trans (hbA.mono HB9.out.size))
  have HXA := Lib.hid (heap_below hbA HX9.out)
  have HYA := Lib.hid (heap_below hbA HY9.out)
  have HIA := Lib.hid (HI9.out.below hbA)
  have HJA := Lib.hid (HJ9.out.below hbA)
  have HKA := Lib.hid (HK9.out.below hbA)
  have HLA := Lib.hid hiA
  clear hbA hoA hiA hnA HR2 HS9 HB9 HX9 HY9 HI9 HJ9 HK9
  obtain ⟨k0, k1, k2, k3, k4⟩ := cells5 HXA.out
  obtain ⟨j0, j1, j2, j3, j4⟩ := cells5 HYA.out
  have e1 : ((xi : Int) == (xi : Int)) = true := by simp
  have e2 : ((xf : Int) == (xf : Int)) = true := by simp
  have e3 : ((ri : Int) == (ri : Int)) = true := by simp
  have e4 : ((rf : Int) == (rf : Int)) = true := by simp
  have e5 : (er == er) = true := by simp
  have hsb := samebytes_any HIA.out HJA.out
  rw [decide_eq_true rfl] at hsb
  have HSB := Lib.hid hsb
  have hse := sameev_any HKA.out HLA.out (by omega) (by omega)
  rw [decide_eq_true rfl] at hse
  have HSE := Lib.hid hse
  clear hsb hse
  go_wp2_with fail
  refine HSB.out.mono ?_
  rintro z w' ⟨rfl, rfl⟩
  go_wp2_with fail
  refine HSE.out.mono ?_
  rintro z wB ⟨rfl, hbB⟩
  have HSC := Lib.hid (HSA.out.below hbB)
  have HBC := Lib.hid (HBA.out.trans (hbB.mono HBA.out.size))
  clear k0 k1 k2 k3 k4 j0 j1 j2 j3 j4 e1 e2 e3 e4 e5 HSB HSE hbB HSA HBA HXA HYA HIA HJA HKA HLA hEQ
  go_upto_region 26 with fail
  have HSD := Lib.hid (HSC.out.below ((Below.refl _ wB).drew))
  have HBD := Lib.hid (HBC.out.trans (((Below.refl _ wB).drew).mono HBC.out.size))
  refine wp_region_held_drew (S := fun w' => Below wB.drew.heap.size wB.drew w') (by kernel_rfl) (Below.refl _ _) (fun hHeld => ?_)
  generalize wB.drew = wd at HSD HBD hHeld ⊢
  clear HSC HBC
  obtain ⟨k0, k1, k2, k3, k4⟩ := cells5 HSD.out.p
  obtain ⟨m0, m1, m2, m3, m4⟩ := cells5 HSD.out.e
  refine wpAnyH_take (i := 0) (v := ?_) rfl (by kernel_rfl) (by kernel_rfl) (by kernel_rfl) (fun _ _ _ h => h) (Or.inl ⟨by rfl, ?_⟩) hHeld ?_
  rotate_left
  · (intro wz hSw; clear hSw; go_simp <;> rfl)
  simp only [Act.put, List.getElem_toArray, List.getElem_cons_zero, List.getElem_cons_succ, List.setIfInBounds_toArray, List.set_cons_zero, List.set_cons_succ]
  refine wpAnyH_take (i := 1) (v := ?_) rfl (by kernel_rfl) (by kernel_rfl) (by kernel_rfl) (fun _ _ _ h => h) (Or.inl ⟨by rfl, ?_⟩) hHeld ?_
  rotate_left
  · (intro wz hSw; clear hSw; go_simp <;> rfl)
  simp only [Act.put, List.getElem_toArray, List.getElem_cons_zero, List.getElem_cons_succ, List.setIfInBounds_toArray, List.set_cons_zero, List.set_cons_succ]
  refine wpAnyH_take (i := 2) (v := ?_) rfl (by kernel_rfl) (by kernel_rfl) (by kernel_rfl) (fun _ _ _ h => h) (Or.inl ⟨by rfl, ?_⟩) hHeld ?_
  rotate_left
  · (intro wz hSw; clear hSw; go_simp <;> rfl)
  simp only [Act.put, List.getElem_toArray, List.getElem_cons_zero, List.getElem_cons_succ, List.setIfInBounds_toArray, List.set_cons_zero, List.set_cons_succ]
  refine wpAnyH_take (i := 4) (v := ?_) rfl (by kernel_rfl) (by kernel_rfl) (by kernel_rfl) (fun _ _ _ h => h) (Or.inl ⟨by rfl, ?_⟩) hHeld ?_
  rotate_left
  · (intro wz hSw; (try dsimp only at hSw); have a0 := cell_below hSw _ _ k0; have b0 := cell_below hSw _ _ m0; have a1 := cell_below hSw _ _ k1; have b1 := cell_below hSw _ _ m1; have a2 := cell_below hSw _ _ k2; have b2 := cell_below hSw _ _ m2; have a3 := cell_below hSw _ _ k3; have b3 := cell_below hSw _ _ m3; have a4 := cell_below hSw _ _ k4; have b4 := cell_below hSw _ _ m4; clear hSw; go_simp <;> rfl)
  simp only [Act.put, List.getElem_toArray, List.getElem_cons_zero, List.getElem_cons_succ, List.setIfInBounds_toArray, List.set_cons_zero, List.set_cons_succ]
  refine wpAnyH_take (i := 5) (v := ?_) rfl (by kernel_rfl) (by kernel_rfl) (by kernel_rfl) (fun _ _ _ h => h) (Or.inl ⟨by rfl, ?_⟩) hHeld ?_
  rotate_left
  · (intro wz hSw; (try dsimp only at hSw); have a0 := cell_below hSw _ _ k0; have b0 := cell_below hSw _ _ m0; have a1 := cell_below hSw _ _ k1; have b1 := cell_below hSw _ _ m1; have a2 := cell_below hSw _ _ k2; have b2 := cell_below hSw _ _ m2; have a3 := cell_below hSw _ _ k3; have b3 := cell_below hSw _ _ m3; have a4 := cell_below hSw _ _ k4; have b4 := cell_below hSw _ _ m4; clear hSw; go_simp <;> rfl)
  simp only [Act.put, List.getElem_toArray, List.getElem_cons_zero, List.getElem_cons_succ, List.setIfInBounds_toArray, List.set_cons_zero, List.set_cons_succ]
  refine wpAnyH_take (i := 7) (v := ?_) rfl (by kernel_rfl) (by kernel_rfl) (by kernel_rfl) (fun _ _ _ h => h) (Or.inl ⟨by rfl, ?_⟩) hHeld ?_
  rotate_left
  · (intro wz hSw; clear hSw; go_simp <;> rfl)
  simp only [Act.put, List.getElem_toArray, List.getElem_cons_zero, List.getElem_cons_succ, List.setIfInBounds_toArray, List.set_cons_zero, List.set_cons_succ]
  refine wpAnyH_take (i := 8) (v := ?_) rfl (by kernel_rfl) (by kernel_rfl) (by kernel_rfl) (fun _ _ _ h => h) (Or.inl ⟨by rfl, ?_⟩) hHeld ?_
  rotate_left
  · (intro wz hSw; (try dsimp only at hSw); have a0 := cell_below hSw _ _ k0; have b0 := cell_below hSw _ _ m0; have a1 := cell_below hSw _ _ k1; have b1 := cell_below hSw _ _ m1; have a2 := cell_below hSw _ _ k2; have b2 := cell_below hSw _ _ m2; have a3 := cell_below hSw _ _ k3; have b3 := cell_below hSw _ _ m3; have a4 := cell_below hSw _ _ k4; have b4 := cell_below hSw _ _ m4; clear hSw; go_simp <;> rfl)
  simp only [Act.put, List.getElem_toArray, List.getElem_cons_zero, List.getElem_cons_succ, List.setIfInBounds_toArray, List.set_cons_zero, List.set_cons_succ]
  refine wpAnyH_take (i := 9) (v := ?_) rfl (by kernel_rfl) (by kernel_rfl) (by kernel_rfl) (fun _ _ _ h => h) (Or.inl ⟨by rfl, ?_⟩) hHeld ?_
  rotate_left
  · (intro wz hSw; (try dsimp only at hSw); have a0 := cell_below hSw _ _ k0; have b0 := cell_below hSw _ _ m0; have a1 := cell_below hSw _ _ k1; have b1 := cell_below hSw _ _ m1; have a2 := cell_below hSw _ _ k2; have b2 := cell_below hSw _ _ m2; have a3 := cell_below hSw _ _ k3; have b3 := cell_below hSw _ _ m3; have a4 := cell_below hSw _ _ k4; have b4 := cell_below hSw _ _ m4; clear hSw; go_simp <;> rfl)
  simp only [Act.put, List.getElem_toArray, List.getElem_cons_zero, List.getElem_cons_succ, List.setIfInBounds_toArray, List.set_cons_zero, List.set_cons_succ]
  clear k0 k1 k2 k3 k4 m0 m1 m2 m3 m4
  refine wpAnyH_ready (rs := [3]) (by kernel_rfl) (by simp) ?_
  refine AllReadyH.cons rfl (fun K hK => ?_) AllReadyH.nil
  go_simp
  refine (copybytes_any HSD.out.b (by omega)).mono ?_
  rintro z wE ⟨E1, ec, rfl, hSp, hbE⟩
  dsimp only
  refine hK.out _ _ (bstep0 hHeld hbE) (fun hHeld => ?_)
  clear hK K
  try simp only [Act.put, List.getElem_toArray, List.getElem_cons_zero, List.getElem_cons_succ, List.setIfInBounds_toArray, List.set_cons_zero, List.set_cons_succ]
  have HBE := Lib.hid (bstep0 (Below.refl _ _) hbE)
  have HIE := Lib.hid hSp.is_
  clear hSp hbE
  refine wpAnyH_ready (rs := [6]) (by kernel_rfl) (by simp) ?_
  refine AllReadyH.cons rfl (fun K hK => ?_) AllReadyH.nil
  go_simp
  refine (Put_any E1 m ec l e p _ HIE.out (by omega) he.op).mono ?_
  rintro z wF ⟨vF, rfl, hoF, hbF⟩
  dsimp only
  refine hK.out _ _ (bstep0 hHeld hbF) (fun hHeld => ?_)
  clear hK K
  try simp only [Act.put, List.getElem_toArray, List.getElem_cons_zero, List.getElem_cons_succ, List.setIfInBounds_toArray, List.set_cons_zero, List.set_cons_succ]
  obtain ⟨AF, nF, cF, rfl, hiF⟩ := own_slice hoF
  have HBF := Lib.hid (bstep0 HBE.out hbF)
  have HIF := Lib.hid hiF
  clear hoF hiF hbF HIE HBE
  refine wpAnyH_ready (rs := [10]) (by kernel_rfl) (by simp) ?_
  refine AllReadyH.cons rfl (fun K hK => ?_) AllReadyH.nil
  go_simp
  refine (refPut_any B m d l p e _ (HSD.out.b.below HBF.out) (by omega) hp he).mono ?_
  rintro z wG ⟨AG, nG, cG, rfl, hiG, hbG⟩
  dsimp only
  refine hK.out _ _ (bstep0 hHeld hbG) (fun hHeld => ?_)
  clear hK K
  try simp only [Act.put, List.getElem_toArray, List.getElem_cons_zero, List.getElem_cons_succ, List.setIfInBounds_toArray, List.set_cons_zero, List.set_cons_succ]
  have HBG := Lib.hid (bstep0 HBF.out hbG)
  have hsb := samebytes_any (HIF.out.below hbG) hiG
  rw [decide_eq_true rfl] at hsb
  have HSB := Lib.hid hsb
  clear hsb hiG hbG HIF HBF
  refine wpAnyH_ready (rs := [11]) (by kernel_rfl) (by simp) ?_
  refine AllReadyH.cons rfl (fun K hK => ?_) AllReadyH.nil
  go_simp
  refine (HSB.out).mono ?_
  rintro z w' ⟨rfl, rfl⟩
  dsimp only
  refine hK.out _ _ hHeld (fun hHeld => ?_)
  clear hK K
  try simp only [Act.put, List.getElem_toArray, List.getElem_cons_zero, List.getElem_cons_succ, List.setIfInBounds_toArray, List.set_cons_zero, List.set_cons_succ]
  refine wpAnyH_take (i := 12) (v := ?_) rfl (by kernel_rfl) (by kernel_rfl) (by kernel_rfl) (fun _ _ _ h => h) (Or.inl ⟨by rfl, ?_⟩) hHeld ?_
  rotate_left
  · (intro wz hSw; clear hSw; go_simp <;> rfl)
  simp only [Act.put, List.getElem_toArray, List.getElem_cons_zero, List.getElem_cons_succ, List.setIfInBounds_toArray, List.set_cons_zero, List.set_cons_succ]
  refine wpAnyH_take (i := 13) (v := ?_) rfl (by kernel_rfl) (by kernel_rfl) (by kernel_rfl) (fun _ _ _ h => h) (Or.inl ⟨by rfl, ?_⟩) hHeld ?_
  rotate_left
  · (intro wz hSw; clear hSw; go_simp <;> rfl)
  simp only [Act.put, List.getElem_toArray, List.getElem_cons_zero, List.getElem_cons_succ, List.setIfInBounds_toArray, List.set_cons_zero, List.set_cons_succ]
  refine wpAnyH_take (i := 14) (v := ?_) rfl (by kernel_rfl) (by kernel_rfl) (by kernel_rfl) (fun _ _ _ h => h) (Or.inl ⟨by rfl, ?_⟩) hHeld ?_
  rotate_left
  · (intro wz hSw; clear hSw; go_simp <;> rfl)
  simp only [Act.put, List.getElem_toArray, List.getElem_cons_zero, List.getElem_cons_succ, List.setIfInBounds_toArray, List.set_cons_zero, List.set_cons_succ]
  refine wpAnyH_take (i := 15) (v := ?_) rfl (by kernel_rfl) (by kernel_rfl) (by kernel_rfl) (fun _ _ _ h => h) (Or.inl ⟨by rfl, ?_⟩) hHeld ?_
  rotate_left
  · (intro wz hSw; clear hSw; go_simp <;> rfl)
  simp only [Act.put, List.getElem_toArray, List.getElem_cons_zero, List.getElem_cons_succ, List.setIfInBounds_toArray, List.set_cons_zero, List.set_cons_succ]
  have hsb := samebytes_any (HSD.out.i.below HBG.out) (HSD.out.b.below HBG.out)
  rw [decide_eq_true rfl] at hsb
  have HSB2 := Lib.hid hsb
  clear hsb HSB
  refine wpAnyH_ready (rs := [16]) (by kernel_rfl) (by simp) ?_
  refine AllReadyH.cons rfl (fun K hK => ?_) AllReadyH.nil
  go_simp
  refine (HSB2.out).mono ?_
  rintro z w' ⟨rfl, rfl⟩
  dsimp only
  refine hK.out _ _ hHeld (fun hHeld => ?_)
  clear hK K
  try simp only [Act.put, List.getElem_toArray, List.getElem_cons_zero, List.getElem_cons_succ, List.setIfInBounds_toArray, List.set_cons_zero, List.set_cons_succ]
  refine wpAnyH_take (i := 17) (v := ?_) rfl (by kernel_rfl) (by kernel_rfl) (by kernel_rfl) (fun _ _ _ h => h) (Or.inl ⟨by rfl, ?_⟩) hHeld ?_
  rotate_left
  · (intro wz hSw; clear hSw; go_simp <;> rfl)
  simp only [Act.put, List.getElem_toArray, List.getElem_cons_zero, List.getElem_cons_succ, List.setIfInBounds_toArray, List.set_cons_zero, List.set_cons_succ]
  refine wpAnyH_take (i := 18) (v := ?_) rfl (by kernel_rfl) (by kernel_rfl) (by kernel_rfl) (fun _ _ _ h => h) (Or.inl ⟨by rfl, ?_⟩) hHeld ?_
  rotate_left
  · (intro wz hSw; clear hSw; go_simp <;> rfl)
  simp only [Act.put, List.getElem_toArray, List.getElem_cons_zero, List.getElem_cons_succ, List.setIfInBounds_toArray, List.set_cons_zero, List.set_cons_succ]
  refine wpAnyH_take (i := 19) (v := ?_) rfl (by kernel_rfl) (by kernel_rfl) (by kernel_rfl) (fun _ _ _ h => h) (Or.inl ⟨by rfl, ?_⟩) hHeld ?_
  rotate_left
  · (intro wz hSw; clear hSw; go_simp <;> rfl)
  simp only [Act.put, List.getElem_toArray, List.getElem_cons_zero, List.getElem_cons_succ, List.setIfInBounds_toArray, List.set_cons_zero, List.set_cons_succ]
  refine wpAnyH_take (i := 20) (v := ?_) rfl (by kernel_rfl) (by kernel_rfl) (by kernel_rfl) (fun _ _ _ h => h) (Or.inl ⟨by rfl, ?_⟩) hHeld ?_
  rotate_left
  · (intro wz hSw; clear hSw; go_simp <;> rfl)
  simp only [Act.put, List.getElem_toArray, List.getElem_cons_zero, List.getElem_cons_succ, List.setIfInBounds_toArray, List.set_cons_zero, List.set_cons_succ]
  have hse := sameev_any (HSD.out.o.below HBG.out) (HSD.out.a.below HBG.out) (by omega) (by omega)
  rw [decide_eq_true rfl] at hse
  have HSE := Lib.hid hse
  clear hse HSB2
  refine wpAnyH_ready (rs := [21]) (by kernel_rfl) (by simp) ?_
  refine AllReadyH.cons rfl (fun K hK => ?_) AllReadyH.nil
  go_simp
  refine (HSE.out).mono ?_
  rintro z wH ⟨rfl, hbH⟩
  dsimp only
  refine hK.out _ _ (bstep0 hHeld hbH) (fun hHeld => ?_)
  clear hK K
  try simp only [Act.put, List.getElem_toArray, List.getElem_cons_zero, List.getElem_cons_succ, List.setIfInBounds_toArray, List.set_cons_zero, List.set_cons_succ]
  have HBH := Lib.hid (bstep0 HBG.out hbH)
  clear hbH HBG HSE
  refine wpAnyH_take (i := 22) (v := ?_) rfl (by kernel_rfl) (by kernel_rfl) (by kernel_rfl) (fun _ _ _ h => h) (Or.inl ⟨by rfl, ?_⟩) hHeld ?_
  rotate_left
  · (intro wz hSw; clear hSw; go_simp <;> rfl)
  simp only [Act.put, List.getElem_toArray, List.getElem_cons_zero, List.getElem_cons_succ, List.setIfInBounds_toArray, List.set_cons_zero, List.set_cons_succ]
  refine wpAnyH_take (i := 23) (v := ?_) rfl (by kernel_rfl) (by kernel_rfl) (by kernel_rfl) (fun _ _ _ h => h) (Or.inl ⟨by rfl, ?_⟩) hHeld ?_
  rotate_left
  · (intro wz hSw; clear hSw; go_simp <;> rfl)
  simp only [Act.put, List.getElem_toArray, List.getElem_cons_zero, List.getElem_cons_succ, List.setIfInBounds_toArray, List.set_cons_zero, List.set_cons_succ]
  refine wpAnyH_ready (rs := [24]) (by kernel_rfl) (by simp) ?_
  refine AllReadyH.cons rfl (fun K hK => ?_) AllReadyH.nil
  go_simp
  refine (awake3_any _).mono ?_
  rintro z wI ⟨rfl, hbI⟩
  dsimp only
  refine hK.out _ _ (bstep0 hHeld hbI) (fun hHeld => ?_)
  clear hK K
  try simp only [Act.put, List.getElem_toArray, List.getElem_cons_zero, List.getElem_cons_succ, List.setIfInBounds_toArray, List.set_cons_zero, List.set_cons_succ]
  have HBI := Lib.hid (bstep0 HBH.out hbI)
  clear hbI HBH
  refine wpAnyH_take (i := 25) (v := ?_) rfl (by kernel_rfl) (by kernel_rfl) (by kernel_rfl) (fun _ _ _ h => h) (Or.inl ⟨by rfl, ?_⟩) hHeld ?_
  rotate_left
  · (intro wz hSw; clear hSw; go_simp <;> rfl)
  simp only [Act.put, List.getElem_toArray, List.getElem_cons_zero, List.getElem_cons_succ, List.setIfInBounds_toArray, List.set_cons_zero, List.set_cons_succ]
  refine wpAnyH_ready (rs := [26]) (by kernel_rfl) (by simp) ?_
  refine AllReadyH.cons rfl (fun K hK => ?_) AllReadyH.nil
  go_simp
  refine hK.out _ _ hHeld (fun hHeld => ?_)
  clear hK K
  try simp only [Act.put, List.getElem_toArray, List.getElem_cons_zero, List.getElem_cons_succ, List.setIfInBounds_toArray, List.set_cons_zero, List.set_cons_succ]
  refine wpAnyH_done (by kernel_rfl) ?_ _
  clear hHeld
  go_wp2_with fail
  go_ret
  exact ⟨rfl, HBD.out.trans (HBI.out.mono HBD.out.size)⟩
end Go.Proofs.Ytebpdlggkncliaa
