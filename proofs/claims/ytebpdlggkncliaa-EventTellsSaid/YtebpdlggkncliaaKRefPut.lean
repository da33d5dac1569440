/-
  The document's own Put and Frame.
-/
import Derived.Test.YtebpdlggkncliaaK5
import Derived.Test.YtebpdlggkncliaaK4
import Derived.Laws.EntriesVeiled
import Derived.Deep.CutRange
set_option linter.unusedVariables false
set_option linter.unusedSimpArgs false
namespace Go.Proofs.Ytebpdlggkncliaa
open Go.RowKit
open Go.Lib (byteCells byteCells_length byteCells_append uvarint)

set_option maxRecDepth 100000 in
set_option maxHeartbeats 1000000 in
theorem four_any (x : Ev) (w : World) : Calls Try.prog 92 #[.agg #[.int .i64 x.th, .int .u8 (x.op : Int), .int .i64 x.obj, .int .i64 x.a, .int .i64 x.b]] w fun e w' => e = .returned (.agg #[.int .i64 x.th, .int .i64 x.obj, .int .i64 x.a, .int .i64 x.b]) ∧ Below w.heap.size w w' := by
  go_enter Try.func92, Try.ntmps92
  go_wp2_with fail
  refine bodyPost_ret (v := .agg #[.int .i64 x.th, .int .i64 x.obj, .int .i64 x.a, .int .i64 x.b]) (by simp [results, Try.results92, go_sem]) rfl ⟨rfl, ?_⟩
  exact ((Below.refl _ w).alloc (Nat.le_refl _) _).alloc (by simp) _
theorem set4 {w : World} {g : Nat} {t : TypeId} {a0 a1 a2 a3 : Value} (h : w.heap[g]? = some (.cells #[a0, a1, a2, a3] t (0, 0))) (v0 v1 v2 v3 : Value) :
    ((((w.setCell ⟨g, 0, none⟩ v0).setCell ⟨g, 1, none⟩ v1).setCell ⟨g, 2, none⟩ v2).setCell ⟨g, 3, none⟩ v3).heap[g]? = some (.cells #[v0, v1, v2, v3] t (0, 0)) ∧
    Away (fun b => b = g) w ((((w.setCell ⟨g, 0, none⟩ v0).setCell ⟨g, 1, none⟩ v1).setCell ⟨g, 2, none⟩ v2).setCell ⟨g, 3, none⟩ v3) := by
  have h0 := set_blk h 0 v0
  have h1 := set_blk h0 1 v1
  have h2 := set_blk h1 2 v2
  have h3 := set_blk h2 3 v3
  refine ⟨h3, ?_⟩
  exact (((Away.setCell w ⟨g, 0, none⟩ v0).trans (Away.setCell _ ⟨g, 1, none⟩ v1) fun b e => .inl e).trans (Away.setCell _ ⟨g, 2, none⟩ v2) fun b e => .inl e).trans (Away.setCell _ ⟨g, 3, none⟩ v3) fun b e => .inl e
def encTo (p e : Ev) : Nat → List UInt8
  | 0 => []
  | 1 => [] ++ svar (dif p.th e.th)
  | 2 => ([] ++ svar (dif p.th e.th)) ++ svar (dif p.obj e.obj)
  | 3 => (([] ++ svar (dif p.th e.th)) ++ svar (dif p.obj e.obj)) ++ svar (dif p.a e.a)
  | _ => ((([] ++ svar (dif p.th e.th)) ++ svar (dif p.obj e.obj)) ++ svar (dif p.a e.a)) ++ svar (dif p.b e.b)
theorem encTo_most (p e : Ev) (i : Nat) : (encTo p e i).length ≤ 40 := by
  have h1 := svar_most (dif_in p.th e.th); have h2 := svar_most (dif_in p.obj e.obj); have h3 := svar_most (dif_in p.a e.a); have h4 := svar_most (dif_in p.b e.b)
  match i with
  | 0 => simp [encTo]
  | 1 => simp only [encTo, List.length_append, List.length_nil]; omega
  | 2 => simp only [encTo, List.length_append, List.length_nil]; omega
  | 3 => simp only [encTo, List.length_append, List.length_nil]; omega
  | n + 4 => simp only [encTo, List.length_append, List.length_nil]; omega
theorem dif_u64 (p e : Int) : IntKind.i64.wrap (IntKind.u64.wrap (IntKind.u64.wrap e - IntKind.u64.wrap p)) = dif p e := by
  unfold dif wrap64
  rw [IntKind.wrap_i64, IntKind.wrap_u64, IntKind.wrap_u64, IntKind.wrap_u64]
  omega
theorem own_nil' (w : World) (base : Nat) : Own w base 5 (.slice none 0 0) [] := Own.nil w base 5
set_option maxRecDepth 100000 in
set_option maxHeartbeats 4000000 in
theorem refPut_any (A : Option Addr) (n c : Nat) (l : List UInt8) (p e : Ev) (w : World) (h : IsB w A n c l) (hn : n ≤ 1000000) (hp : p.ok) (he : e.ok) :
    Calls Try.prog 50 #[.slice A n c, .agg #[.int .i64 p.th, .int .u8 (p.op : Int), .int .i64 p.obj, .int .i64 p.a, .int .i64 p.b], .agg #[.int .i64 e.th, .int .u8 (e.op : Int), .int .i64 e.obj, .int .i64 e.a, .int .i64 e.b]] w fun x w' =>
      ∃ B m d, x = .returned (.slice B m d) ∧ IsB w' B m d (l ++ encEv p e) ∧ Below w.heap.size w w' := by
  have hlen := h.len
  have hbp : Below w.heap.size w (w.alloc (.cells #[.int .i64 p.th, .int .u8 (p.op : Int), .int .i64 p.obj, .int .i64 p.a, .int .i64 p.b] 70)) := (Below.refl _ _).alloc (Nat.le_refl _) _
  have hsp : (w.alloc (.cells #[.int .i64 p.th, .int .u8 (p.op : Int), .int .i64 p.obj, .int .i64 p.a, .int .i64 p.b] 70)).heap.size = w.heap.size + 1 := Array.size_push _
  have hxp : (w.alloc (.cells #[.int .i64 p.th, .int .u8 (p.op : Int), .int .i64 p.obj, .int .i64 p.a, .int .i64 p.b] 70)).heap[w.heap.size]? = some (.cells #[.int .i64 p.th, .int .u8 (p.op : Int), .int .i64 p.obj, .int .i64 p.a, .int .i64 p.b] 70 (0, 0)) := heap_alloc_new _ _
  have hbe : Below (w.alloc (.cells #[.int .i64 p.th, .int .u8 (p.op : Int), .int .i64 p.obj, .int .i64 p.a, .int .i64 p.b] 70)).heap.size (w.alloc (.cells #[.int .i64 p.th, .int .u8 (p.op : Int), .int .i64 p.obj, .int .i64 p.a, .int .i64 p.b] 70)) ((w.alloc (.cells #[.int .i64 p.th, .int .u8 (p.op : Int), .int .i64 p.obj, .int .i64 p.a, .int .i64 p.b] 70)).alloc (.cells #[.int .i64 e.th, .int .u8 (e.op : Int), .int .i64 e.obj, .int .i64 e.a, .int .i64 e.b] 70)) := (Below.refl _ _).alloc (Nat.le_refl _) _
  have hxe : ((w.alloc (.cells #[.int .i64 p.th, .int .u8 (p.op : Int), .int .i64 p.obj, .int .i64 p.a, .int .i64 p.b] 70)).alloc (.cells #[.int .i64 e.th, .int .u8 (e.op : Int), .int .i64 e.obj, .int .i64 e.a, .int .i64 e.b] 70)).heap[w.heap.size + 1]? = some (.cells #[.int .i64 e.th, .int .u8 (e.op : Int), .int .i64 e.obj, .int .i64 e.a, .int .i64 e.b] 70 (0, 0)) := by rw [← hsp]; exact heap_alloc_new _ _
  have hxp2 := (hbe.block _ (by rw [hsp]; omega)).trans hxp
  have hB0 := hbp.trans (hbe.mono hbp.size)
  have hI0 := h.below hB0
  clear hbp hsp hxp hbe h
  go_enter Try.func50, Try.ntmps50
  go_upto_region 2 with fail
  generalize (w.alloc (.cells #[.int .i64 p.th, .int .u8 (p.op : Int), .int .i64 p.obj, .int .i64 p.a, .int .i64 p.b] 70)).alloc (.cells #[.int .i64 e.th, .int .u8 (e.op : Int), .int .i64 e.obj, .int .i64 e.a, .int .i64 e.b] 70) = W0 at hxe hxp2 hB0 hI0 ⊢
  obtain ⟨i0, j2, j3, j4, j5⟩ := info_parts infoByte
  obtain ⟨v1, w1, hap1, hO1, hb1⟩ := run_putAny (P := Try.prog) W0 26 26 5 i0 Try.underlying26 j2 j3 j4 j5 W0.heap.size (.slice none 0 0) [] (Own.nil _ _ _) A n c l hI0 (by simp; omega) (Nat.le_refl _)
  rw [List.nil_append] at hO1
  obtain ⟨A1, n1, c1, rfl, hI1⟩ := own_slice hO1
  have hn1 := hI1.len
  have hb2 : Below w1.heap.size w1 (w1.alloc (.cells #[.int .u8 (e.op : Int)] 5)) := (Below.refl _ _).alloc (Nat.le_refl _) _
  have hop : ((e.op.toUInt8).toNat : Int) = (e.op : Int) := by rw [byte_toNat he.op]
  have hI2 : IsB (w1.alloc (.cells #[.int .u8 (e.op : Int)] 5)) (some ⟨w1.heap.size, 0, none⟩) 1 1 [e.op.toUInt8] := new_bytes w1 [e.op.toUInt8] #[.int .u8 (e.op : Int)] _ _ 1 (by rw [← hop]; rfl) rfl
  obtain ⟨v3, w3, hap3, hO3, hb3⟩ := run_putAny (P := Try.prog) (w1.alloc (.cells #[.int .u8 (e.op : Int)] 5)) 26 26 5 i0 Try.underlying26 j2 j3 j4 j5 W0.heap.size (.slice A1 n1 c1) l (hO1.below hb2) (some ⟨w1.heap.size, 0, none⟩) 1 1 [e.op.toUInt8] hI2 (by omega) (Nat.le_trans hb1.size hb2.size)
  obtain ⟨A3, n3, c3, rfl, hI3⟩ := own_slice hO3
  have hB3 := (hb1.trans (hb2.mono hb1.size)).trans hb3
  have hx3 := (hB3.block _ (Array.getElem?_eq_some_iff.1 hxp2).1).trans hxp2
  have hy3 := (hB3.block _ (Array.getElem?_eq_some_iff.1 hxe).1).trans hxe
  have hBw3 := hB0.trans (hB3.mono hB0.size)
  have hy1 := (hb1.block _ (Array.getElem?_eq_some_iff.1 hxe).1).trans hxe
  have kop : w1.cell? ⟨w.heap.size + 1, 1, none⟩ = some (.int .u8 (e.op : Int)) := cell_of_row w1 _ 1 _ _ _ hy1
  clear hy1 hI0 hO1 hI1 hb1 hb2 hI2 hO3 hb3 hB3 hxp2 hxe hB0
  go_upto_region 4 with (at_builtin; first
    | (refine wpList_run _ rfl (.tmp 11) (.tmp 12) 26 rfl (R := fun v' w' => v' = .slice A1 n1 c1 ∧ w1 = w') ⟨_, _, hap1, rfl, rfl⟩ ?_; rintro v' w' ⟨rfl, rfl⟩)
    | (refine wpList_run _ rfl (.tmp 14) (.tmp 17) 26 rfl (R := fun v' w' => v' = .slice A3 n3 c3 ∧ w3 = w') ⟨_, _, hap3, rfl, rfl⟩ ?_; rintro v' w' ⟨rfl, rfl⟩))
  clear hap1 hap3 kop
  have kp0 := cell_of_row w3 _ 0 _ _ _ hx3
  have kp1 := cell_of_row w3 _ 1 _ _ _ hx3
  have kp2 := cell_of_row w3 _ 2 _ _ _ hx3
  have kp3 := cell_of_row w3 _ 3 _ _ _ hx3
  have kp4 := cell_of_row w3 _ 4 _ _ _ hx3
  have ke0 := cell_of_row w3 _ 0 _ _ _ hy3
  have ke1 := cell_of_row w3 _ 1 _ _ _ hy3
  have ke2 := cell_of_row w3 _ 2 _ _ _ hy3
  have ke3 := cell_of_row w3 _ 3 _ _ _ hy3
  have ke4 := cell_of_row w3 _ 4 _ _ _ hy3
  go_cut [8, 9] from 19 to 22 (fun p8 p9 wx => ∃ g8 g9, p8 = .pointer (some ⟨g8, 0, none⟩) ∧ p9 = .pointer (some ⟨g9, 0, none⟩) ∧ wx.heap[g8]? = some (.cells #[.int .i64 p.th, .int .i64 p.obj, .int .i64 p.a, .int .i64 p.b] 131 (0, 0)) ∧ wx.heap[g9]? = some (.cells #[.int .i64 e.th, .int .i64 e.obj, .int .i64 e.a, .int .i64 e.b] 131 (0, 0)) ∧ Below w3.heap.size w3 wx)
  case first =>
    refine wp_region_held_drew (S := fun w' => Below w3.heap.size w3 w') (by kernel_rfl) ((Below.refl _ w3).drew) (fun hHeld => ?_)
    have hBase : Below w3.heap.size w3 w3.drew := (Below.refl _ w3).drew
    generalize w3.drew = wd at hBase hHeld ⊢
    refine wpAnyH_take (i := 0) (v := ?_) rfl (by kernel_rfl) (by kernel_rfl) (by kernel_rfl) (fun _ _ _ h => h) (Or.inl ⟨by rfl, ?_⟩) hHeld ?_
    rotate_left
    · (intro w hSw; have z0 := cell_below hSw _ _ kp0; have z1 := cell_below hSw _ _ kp1; have z2 := cell_below hSw _ _ kp2; have z3 := cell_below hSw _ _ kp3; have z4 := cell_below hSw _ _ kp4; have y0 := cell_below hSw _ _ ke0; have y1 := cell_below hSw _ _ ke1; have y2 := cell_below hSw _ _ ke2; have y3 := cell_below hSw _ _ ke3; have y4 := cell_below hSw _ _ ke4; go_simp <;> rfl)
    simp only [Act.put, List.getElem_toArray, List.getElem_cons_zero, List.getElem_cons_succ, List.setIfInBounds_toArray, List.set_cons_zero, List.set_cons_succ]
    refine wpAnyH_take (i := 2) (v := ?_) rfl (by kernel_rfl) (by kernel_rfl) (by kernel_rfl) (fun _ _ _ h => h) (Or.inl ⟨by rfl, ?_⟩) hHeld ?_
    rotate_left
    · (intro w hSw; have z0 := cell_below hSw _ _ kp0; have z1 := cell_below hSw _ _ kp1; have z2 := cell_below hSw _ _ kp2; have z3 := cell_below hSw _ _ kp3; have z4 := cell_below hSw _ _ kp4; have y0 := cell_below hSw _ _ ke0; have y1 := cell_below hSw _ _ ke1; have y2 := cell_below hSw _ _ ke2; have y3 := cell_below hSw _ _ ke3; have y4 := cell_below hSw _ _ ke4; go_simp <;> rfl)
    simp only [Act.put, List.getElem_toArray, List.getElem_cons_zero, List.getElem_cons_succ, List.setIfInBounds_toArray, List.set_cons_zero, List.set_cons_succ]
    refine wpAnyH_ready (rs := [1, 4, 5]) (by kernel_rfl) (by simp) ?_
    refine AllReadyH.cons rfl (fun K hK => ?_) (AllReadyH.cons rfl (fun K hK => ?_) (AllReadyH.cons rfl (fun K hK => ?_) AllReadyH.nil))
    · skip
      go_simp
      refine (four_any p _).mono ?_
      rintro x u1 ⟨rfl, hq1⟩
      have hU1 : Below w3.heap.size w3 u1 := bstep0 hBase hq1
      dsimp only
      refine hK.out _ _ hU1 (fun hHeld => ?_)
      clear hK K
      try simp only [Act.put, List.getElem_toArray, List.getElem_cons_zero, List.getElem_cons_succ, List.setIfInBounds_toArray, List.set_cons_zero, List.set_cons_succ]
      refine wpAnyH_ready (rs := [3, 4, 5]) (by kernel_rfl) (by simp) ?_
      refine AllReadyH.cons rfl (fun K hK => ?_) (AllReadyH.cons rfl (fun K hK => ?_) (AllReadyH.cons rfl (fun K hK => ?_) AllReadyH.nil))
      · skip
        go_simp
        refine (four_any e _).mono ?_
        rintro x u2 ⟨rfl, hq2⟩
        have hU2 : Below w3.heap.size w3 u2 := bstep0 hU1 hq2
        dsimp only
        refine hK.out _ _ hU2 (fun hHeld => ?_)
        clear hK K
        try simp only [Act.put, List.getElem_toArray, List.getElem_cons_zero, List.getElem_cons_succ, List.setIfInBounds_toArray, List.set_cons_zero, List.set_cons_succ]
        refine wpAnyH_ready (rs := [4, 5]) (by kernel_rfl) (by simp) ?_
        refine AllReadyH.cons rfl (fun K hK => ?_) (AllReadyH.cons rfl (fun K hK => ?_) AllReadyH.nil)
        · skip
          go_simp
          have hU3 : Below w3.heap.size w3 (u2.alloc (.cells #[.int .i64 0, .int .i64 0, .int .i64 0, .int .i64 0] 131)) := hU2.alloc (hU2.size) _
          have hq3 : Below u2.heap.size u2 (u2.alloc (.cells #[.int .i64 0, .int .i64 0, .int .i64 0, .int .i64 0] 131)) := (Below.refl _ _).alloc (Nat.le_refl _) _
          have hn3 : (u2.alloc (.cells #[.int .i64 0, .int .i64 0, .int .i64 0, .int .i64 0] 131)).heap[u2.heap.size]? = some (.cells #[.int .i64 0, .int .i64 0, .int .i64 0, .int .i64 0] 131 (0, 0)) := heap_alloc_new _ _
          have hz3 := hU2.size
          refine hK.out _ _ hU3 (fun hHeld => ?_)
          clear hK K
          try simp only [Act.put, List.getElem_toArray, List.getElem_cons_zero, List.getElem_cons_succ, List.setIfInBounds_toArray, List.set_cons_zero, List.set_cons_succ]
          generalize u2.alloc (.cells #[.int .i64 0, .int .i64 0, .int .i64 0, .int .i64 0] 131) = u3 at hU3 hq3 hn3 hHeld ⊢
          refine wpAnyH_ready (rs := [5]) (by kernel_rfl) (by simp) ?_
          refine AllReadyH.cons rfl (fun K hK => ?_) AllReadyH.nil
          go_simp
          have hU4 : Below w3.heap.size w3 (u3.alloc (.cells #[.int .i64 0, .int .i64 0, .int .i64 0, .int .i64 0] 131)) := hU3.alloc (hU3.size) _
          have hq4 : Below u3.heap.size u3 (u3.alloc (.cells #[.int .i64 0, .int .i64 0, .int .i64 0, .int .i64 0] 131)) := (Below.refl _ _).alloc (Nat.le_refl _) _
          have hn4 : (u3.alloc (.cells #[.int .i64 0, .int .i64 0, .int .i64 0, .int .i64 0] 131)).heap[u3.heap.size]? = some (.cells #[.int .i64 0, .int .i64 0, .int .i64 0, .int .i64 0] 131 (0, 0)) := heap_alloc_new _ _
          have hz4 := hU3.size
          have hg8_4 := (hq4.block _ (Array.getElem?_eq_some_iff.1 hn3).1).trans hn3
          have hne : u2.heap.size ≠ u3.heap.size := by have := (Array.getElem?_eq_some_iff.1 hn3).1; omega
          refine hK.out _ _ hU4 (fun hHeld => ?_)
          clear hK K
          try simp only [Act.put, List.getElem_toArray, List.getElem_cons_zero, List.getElem_cons_succ, List.setIfInBounds_toArray, List.set_cons_zero, List.set_cons_succ]
          generalize u3.alloc (.cells #[.int .i64 0, .int .i64 0, .int .i64 0, .int .i64 0] 131) = u4 at hU4 hq4 hn4 hHeld hg8_4 ⊢
          have s60 := cell_of_row u4 _ 0 _ _ _ hg8_4
          have s61 := cell_of_row u4 _ 1 _ _ _ hg8_4
          have s62 := cell_of_row u4 _ 2 _ _ _ hg8_4
          have s63 := cell_of_row u4 _ 3 _ _ _ hg8_4
          have t60 := free_of_row hg8_4 0
          have t61 := free_of_row hg8_4 1
          have t62 := free_of_row hg8_4 2
          have t63 := free_of_row hg8_4 3
          obtain ⟨r6, a6⟩ := set4 hg8_4 (.int .i64 p.th) (.int .i64 p.obj) (.int .i64 p.a) (.int .i64 p.b)
          have l6 := (hU4.trans (a6.below (B := w3.heap.size) hU4.size fun b hb => by subst hb; exact hz3))
          have m6 := (a6.block _ (Array.getElem?_eq_some_iff.1 hn4).1 hne.symm).trans hn4
          refine wpAnyH_ready (rs := [6]) (by kernel_rfl) (by simp) ?_
          refine AllReadyH.cons rfl (fun K hK => ?_) AllReadyH.nil
          go_simp
          refine hK.out _ _ l6 (fun hHeld => ?_)
          clear hK K s60 s61 s62 s63 t60 t61 t62 t63
          try simp only [Act.put, List.getElem_toArray, List.getElem_cons_zero, List.getElem_cons_succ, List.setIfInBounds_toArray, List.set_cons_zero, List.set_cons_succ]
          generalize ((((u4.setCell ⟨u2.heap.size, 0, none⟩ (.int .i64 p.th)).setCell ⟨u2.heap.size, 1, none⟩ (.int .i64 p.obj)).setCell ⟨u2.heap.size, 2, none⟩ (.int .i64 p.a)).setCell ⟨u2.heap.size, 3, none⟩ (.int .i64 p.b)) = v6 at r6 a6 l6 m6 hHeld ⊢
          have s70 := cell_of_row v6 _ 0 _ _ _ m6
          have s71 := cell_of_row v6 _ 1 _ _ _ m6
          have s72 := cell_of_row v6 _ 2 _ _ _ m6
          have s73 := cell_of_row v6 _ 3 _ _ _ m6
          have t70 := free_of_row m6 0
          have t71 := free_of_row m6 1
          have t72 := free_of_row m6 2
          have t73 := free_of_row m6 3
          obtain ⟨r7, a7⟩ := set4 m6 (.int .i64 e.th) (.int .i64 e.obj) (.int .i64 e.a) (.int .i64 e.b)
          have l7 := (l6.trans (a7.below (B := w3.heap.size) l6.size fun b hb => by subst hb; exact hz4))
          have m7 := (a7.block _ (Array.getElem?_eq_some_iff.1 r6).1 hne).trans r6
          refine wpAnyH_ready (rs := [7]) (by kernel_rfl) (by simp) ?_
          refine AllReadyH.cons rfl (fun K hK => ?_) AllReadyH.nil
          go_simp
          refine hK.out _ _ l7 (fun hHeld => ?_)
          clear hK K s70 s71 s72 s73 t70 t71 t72 t73
          try simp only [Act.put, List.getElem_toArray, List.getElem_cons_zero, List.getElem_cons_succ, List.setIfInBounds_toArray, List.set_cons_zero, List.set_cons_succ]
          generalize ((((v6.setCell ⟨u3.heap.size, 0, none⟩ (.int .i64 e.th)).setCell ⟨u3.heap.size, 1, none⟩ (.int .i64 e.obj)).setCell ⟨u3.heap.size, 2, none⟩ (.int .i64 e.a)).setCell ⟨u3.heap.size, 3, none⟩ (.int .i64 e.b)) = v7 at r7 a7 l7 m7 hHeld ⊢
          refine wpAnyH_done (by kernel_rfl) ?_ _
          go_wp2_with fail
          go_meet
          exact ⟨_, _, rfl, rfl, m7, r7, l7⟩
        · skip
          go_simp
          have hU5 : Below w3.heap.size w3 (u2.alloc (.cells #[.int .i64 0, .int .i64 0, .int .i64 0, .int .i64 0] 131)) := hU2.alloc (hU2.size) _
          have hq5 : Below u2.heap.size u2 (u2.alloc (.cells #[.int .i64 0, .int .i64 0, .int .i64 0, .int .i64 0] 131)) := (Below.refl _ _).alloc (Nat.le_refl _) _
          have hn5 : (u2.alloc (.cells #[.int .i64 0, .int .i64 0, .int .i64 0, .int .i64 0] 131)).heap[u2.heap.size]? = some (.cells #[.int .i64 0, .int .i64 0, .int .i64 0, .int .i64 0] 131 (0, 0)) := heap_alloc_new _ _
          have hz5 := hU2.size
          refine hK.out _ _ hU5 (fun hHeld => ?_)
          clear hK K
          try simp only [Act.put, List.getElem_toArray, List.getElem_cons_zero, List.getElem_cons_succ, List.setIfInBounds_toArray, List.set_cons_zero, List.set_cons_succ]
          generalize u2.alloc (.cells #[.int .i64 0, .int .i64 0, .int .i64 0, .int .i64 0] 131) = u5 at hU5 hq5 hn5 hHeld ⊢
          refine wpAnyH_ready (rs := [4]) (by kernel_rfl) (by simp) ?_
          refine AllReadyH.cons rfl (fun K hK => ?_) AllReadyH.nil
          go_simp
          have hU6 : Below w3.heap.size w3 (u5.alloc (.cells #[.int .i64 0, .int .i64 0, .int .i64 0, .int .i64 0] 131)) := hU5.alloc (hU5.size) _
          have hq6 : Below u5.heap.size u5 (u5.alloc (.cells #[.int .i64 0, .int .i64 0, .int .i64 0, .int .i64 0] 131)) := (Below.refl _ _).alloc (Nat.le_refl _) _
          have hn6 : (u5.alloc (.cells #[.int .i64 0, .int .i64 0, .int .i64 0, .int .i64 0] 131)).heap[u5.heap.size]? = some (.cells #[.int .i64 0, .int .i64 0, .int .i64 0, .int .i64 0] 131 (0, 0)) := heap_alloc_new _ _
          have hz6 := hU5.size
          have hg9_6 := (hq6.block _ (Array.getElem?_eq_some_iff.1 hn5).1).trans hn5
          have hne : u5.heap.size ≠ u2.heap.size := by have := (Array.getElem?_eq_some_iff.1 hn5).1; omega
          refine hK.out _ _ hU6 (fun hHeld => ?_)
          clear hK K
          try simp only [Act.put, List.getElem_toArray, List.getElem_cons_zero, List.getElem_cons_succ, List.setIfInBounds_toArray, List.set_cons_zero, List.set_cons_succ]
          generalize u5.alloc (.cells #[.int .i64 0, .int .i64 0, .int .i64 0, .int .i64 0] 131) = u6 at hU6 hq6 hn6 hHeld hg9_6 ⊢
          have s60 := cell_of_row u6 _ 0 _ _ _ hn6
          have s61 := cell_of_row u6 _ 1 _ _ _ hn6
          have s62 := cell_of_row u6 _ 2 _ _ _ hn6
          have s63 := cell_of_row u6 _ 3 _ _ _ hn6
          have t60 := free_of_row hn6 0
          have t61 := free_of_row hn6 1
          have t62 := free_of_row hn6 2
          have t63 := free_of_row hn6 3
          obtain ⟨r6, a6⟩ := set4 hn6 (.int .i64 p.th) (.int .i64 p.obj) (.int .i64 p.a) (.int .i64 p.b)
          have l6 := (hU6.trans (a6.below (B := w3.heap.size) hU6.size fun b hb => by subst hb; exact hz6))
          have m6 := (a6.block _ (Array.getElem?_eq_some_iff.1 hg9_6).1 hne.symm).trans hg9_6
          refine wpAnyH_ready (rs := [6]) (by kernel_rfl) (by simp) ?_
          refine AllReadyH.cons rfl (fun K hK => ?_) AllReadyH.nil
          go_simp
          refine hK.out _ _ l6 (fun hHeld => ?_)
          clear hK K s60 s61 s62 s63 t60 t61 t62 t63
          try simp only [Act.put, List.getElem_toArray, List.getElem_cons_zero, List.getElem_cons_succ, List.setIfInBounds_toArray, List.set_cons_zero, List.set_cons_succ]
          generalize ((((u6.setCell ⟨u5.heap.size, 0, none⟩ (.int .i64 p.th)).setCell ⟨u5.heap.size, 1, none⟩ (.int .i64 p.obj)).setCell ⟨u5.heap.size, 2, none⟩ (.int .i64 p.a)).setCell ⟨u5.heap.size, 3, none⟩ (.int .i64 p.b)) = v6 at r6 a6 l6 m6 hHeld ⊢
          have s70 := cell_of_row v6 _ 0 _ _ _ m6
          have s71 := cell_of_row v6 _ 1 _ _ _ m6
          have s72 := cell_of_row v6 _ 2 _ _ _ m6
          have s73 := cell_of_row v6 _ 3 _ _ _ m6
          have t70 := free_of_row m6 0
          have t71 := free_of_row m6 1
          have t72 := free_of_row m6 2
          have t73 := free_of_row m6 3
          obtain ⟨r7, a7⟩ := set4 m6 (.int .i64 e.th) (.int .i64 e.obj) (.int .i64 e.a) (.int .i64 e.b)
          have l7 := (l6.trans (a7.below (B := w3.heap.size) l6.size fun b hb => by subst hb; exact hz5))
          have m7 := (a7.block _ (Array.getElem?_eq_some_iff.1 r6).1 hne).trans r6
          refine wpAnyH_ready (rs := [7]) (by kernel_rfl) (by simp) ?_
          refine AllReadyH.cons rfl (fun K hK => ?_) AllReadyH.nil
          go_simp
          refine hK.out _ _ l7 (fun hHeld => ?_)
          clear hK K s70 s71 s72 s73 t70 t71 t72 t73
          try simp only [Act.put, List.getElem_toArray, List.getElem_cons_zero, List.getElem_cons_succ, List.setIfInBounds_toArray, List.set_cons_zero, List.set_cons_succ]
          generalize ((((v6.setCell ⟨u2.heap.size, 0, none⟩ (.int .i64 e.th)).setCell ⟨u2.heap.size, 1, none⟩ (.int .i64 e.obj)).setCell ⟨u2.heap.size, 2, none⟩ (.int .i64 e.a)).setCell ⟨u2.heap.size, 3, none⟩ (.int .i64 e.b)) = v7 at r7 a7 l7 m7 hHeld ⊢
          refine wpAnyH_done (by kernel_rfl) ?_ _
          go_wp2_with fail
          go_meet
          exact ⟨_, _, rfl, rfl, m7, r7, l7⟩
      · skip
        go_simp
        have hU7 : Below w3.heap.size w3 (u1.alloc (.cells #[.int .i64 0, .int .i64 0, .int .i64 0, .int .i64 0] 131)) := hU1.alloc (hU1.size) _
        have hq7 : Below u1.heap.size u1 (u1.alloc (.cells #[.int .i64 0, .int .i64 0, .int .i64 0, .int .i64 0] 131)) := (Below.refl _ _).alloc (Nat.le_refl _) _
        have hn7 : (u1.alloc (.cells #[.int .i64 0, .int .i64 0, .int .i64 0, .int .i64 0] 131)).heap[u1.heap.size]? = some (.cells #[.int .i64 0, .int .i64 0, .int .i64 0, .int .i64 0] 131 (0, 0)) := heap_alloc_new _ _
        have hz7 := hU1.size
        refine hK.out _ _ hU7 (fun hHeld => ?_)
        clear hK K
        try simp only [Act.put, List.getElem_toArray, List.getElem_cons_zero, List.getElem_cons_succ, List.setIfInBounds_toArray, List.set_cons_zero, List.set_cons_succ]
        generalize u1.alloc (.cells #[.int .i64 0, .int .i64 0, .int .i64 0, .int .i64 0] 131) = u7 at hU7 hq7 hn7 hHeld ⊢
        refine wpAnyH_ready (rs := [3, 5]) (by kernel_rfl) (by simp) ?_
        refine AllReadyH.cons rfl (fun K hK => ?_) (AllReadyH.cons rfl (fun K hK => ?_) AllReadyH.nil)
        · skip
          go_simp
          refine (four_any e _).mono ?_
          rintro x u8 ⟨rfl, hq8⟩
          have hU8 : Below w3.heap.size w3 u8 := bstep0 hU7 hq8
          dsimp only
          refine hK.out _ _ hU8 (fun hHeld => ?_)
          clear hK K
          try simp only [Act.put, List.getElem_toArray, List.getElem_cons_zero, List.getElem_cons_succ, List.setIfInBounds_toArray, List.set_cons_zero, List.set_cons_succ]
          have hg8_8 := (hq8.block _ (Array.getElem?_eq_some_iff.1 hn7).1).trans hn7
          refine wpAnyH_ready (rs := [5]) (by kernel_rfl) (by simp) ?_
          refine AllReadyH.cons rfl (fun K hK => ?_) AllReadyH.nil
          go_simp
          have hU9 : Below w3.heap.size w3 (u8.alloc (.cells #[.int .i64 0, .int .i64 0, .int .i64 0, .int .i64 0] 131)) := hU8.alloc (hU8.size) _
          have hq9 : Below u8.heap.size u8 (u8.alloc (.cells #[.int .i64 0, .int .i64 0, .int .i64 0, .int .i64 0] 131)) := (Below.refl _ _).alloc (Nat.le_refl _) _
          have hn9 : (u8.alloc (.cells #[.int .i64 0, .int .i64 0, .int .i64 0, .int .i64 0] 131)).heap[u8.heap.size]? = some (.cells #[.int .i64 0, .int .i64 0, .int .i64 0, .int .i64 0] 131 (0, 0)) := heap_alloc_new _ _
          have hz9 := hU8.size
          have hg8_9 := (hq9.block _ (Array.getElem?_eq_some_iff.1 hg8_8).1).trans hg8_8
          have hne : u1.heap.size ≠ u8.heap.size := by have := (Array.getElem?_eq_some_iff.1 hg8_8).1; omega
          refine hK.out _ _ hU9 (fun hHeld => ?_)
          clear hK K
          try simp only [Act.put, List.getElem_toArray, List.getElem_cons_zero, List.getElem_cons_succ, List.setIfInBounds_toArray, List.set_cons_zero, List.set_cons_succ]
          generalize u8.alloc (.cells #[.int .i64 0, .int .i64 0, .int .i64 0, .int .i64 0] 131) = u9 at hU9 hq9 hn9 hHeld hg8_9 ⊢
          have s60 := cell_of_row u9 _ 0 _ _ _ hg8_9
          have s61 := cell_of_row u9 _ 1 _ _ _ hg8_9
          have s62 := cell_of_row u9 _ 2 _ _ _ hg8_9
          have s63 := cell_of_row u9 _ 3 _ _ _ hg8_9
          have t60 := free_of_row hg8_9 0
          have t61 := free_of_row hg8_9 1
          have t62 := free_of_row hg8_9 2
          have t63 := free_of_row hg8_9 3
          obtain ⟨r6, a6⟩ := set4 hg8_9 (.int .i64 p.th) (.int .i64 p.obj) (.int .i64 p.a) (.int .i64 p.b)
          have l6 := (hU9.trans (a6.below (B := w3.heap.size) hU9.size fun b hb => by subst hb; exact hz7))
          have m6 := (a6.block _ (Array.getElem?_eq_some_iff.1 hn9).1 hne.symm).trans hn9
          refine wpAnyH_ready (rs := [6]) (by kernel_rfl) (by simp) ?_
          refine AllReadyH.cons rfl (fun K hK => ?_) AllReadyH.nil
          go_simp
          refine hK.out _ _ l6 (fun hHeld => ?_)
          clear hK K s60 s61 s62 s63 t60 t61 t62 t63
          try simp only [Act.put, List.getElem_toArray, List.getElem_cons_zero, List.getElem_cons_succ, List.setIfInBounds_toArray, List.set_cons_zero, List.set_cons_succ]
          generalize ((((u9.setCell ⟨u1.heap.size, 0, none⟩ (.int .i64 p.th)).setCell ⟨u1.heap.size, 1, none⟩ (.int .i64 p.obj)).setCell ⟨u1.heap.size, 2, none⟩ (.int .i64 p.a)).setCell ⟨u1.heap.size, 3, none⟩ (.int .i64 p.b)) = v6 at r6 a6 l6 m6 hHeld ⊢
          have s70 := cell_of_row v6 _ 0 _ _ _ m6
          have s71 := cell_of_row v6 _ 1 _ _ _ m6
          have s72 := cell_of_row v6 _ 2 _ _ _ m6
          have s73 := cell_of_row v6 _ 3 _ _ _ m6
          have t70 := free_of_row m6 0
          have t71 := free_of_row m6 1
          have t72 := free_of_row m6 2
          have t73 := free_of_row m6 3
          obtain ⟨r7, a7⟩ := set4 m6 (.int .i64 e.th) (.int .i64 e.obj) (.int .i64 e.a) (.int .i64 e.b)
          have l7 := (l6.trans (a7.below (B := w3.heap.size) l6.size fun b hb => by subst hb; exact hz9))
          have m7 := (a7.block _ (Array.getElem?_eq_some_iff.1 r6).1 hne).trans r6
          refine wpAnyH_ready (rs := [7]) (by kernel_rfl) (by simp) ?_
          refine AllReadyH.cons rfl (fun K hK => ?_) AllReadyH.nil
          go_simp
          refine hK.out _ _ l7 (fun hHeld => ?_)
          clear hK K s70 s71 s72 s73 t70 t71 t72 t73
          try simp only [Act.put, List.getElem_toArray, List.getElem_cons_zero, List.getElem_cons_succ, List.setIfInBounds_toArray, List.set_cons_zero, List.set_cons_succ]
          generalize ((((v6.setCell ⟨u8.heap.size, 0, none⟩ (.int .i64 e.th)).setCell ⟨u8.heap.size, 1, none⟩ (.int .i64 e.obj)).setCell ⟨u8.heap.size, 2, none⟩ (.int .i64 e.a)).setCell ⟨u8.heap.size, 3, none⟩ (.int .i64 e.b)) = v7 at r7 a7 l7 m7 hHeld ⊢
          refine wpAnyH_done (by kernel_rfl) ?_ _
          go_wp2_with fail
          go_meet
          exact ⟨_, _, rfl, rfl, m7, r7, l7⟩
        · skip
          go_simp
          have hU10 : Below w3.heap.size w3 (u7.alloc (.cells #[.int .i64 0, .int .i64 0, .int .i64 0, .int .i64 0] 131)) := hU7.alloc (hU7.size) _
          have hq10 : Below u7.heap.size u7 (u7.alloc (.cells #[.int .i64 0, .int .i64 0, .int .i64 0, .int .i64 0] 131)) := (Below.refl _ _).alloc (Nat.le_refl _) _
          have hn10 : (u7.alloc (.cells #[.int .i64 0, .int .i64 0, .int .i64 0, .int .i64 0] 131)).heap[u7.heap.size]? = some (.cells #[.int .i64 0, .int .i64 0, .int .i64 0, .int .i64 0] 131 (0, 0)) := heap_alloc_new _ _
          have hz10 := hU7.size
          have hg8_10 := (hq10.block _ (Array.getElem?_eq_some_iff.1 hn7).1).trans hn7
          have hne : u1.heap.size ≠ u7.heap.size := by have := (Array.getElem?_eq_some_iff.1 hn7).1; omega
          refine hK.out _ _ hU10 (fun hHeld => ?_)
          clear hK K
          try simp only [Act.put, List.getElem_toArray, List.getElem_cons_zero, List.getElem_cons_succ, List.setIfInBounds_toArray, List.set_cons_zero, List.set_cons_succ]
          generalize u7.alloc (.cells #[.int .i64 0, .int .i64 0, .int .i64 0, .int .i64 0] 131) = u10 at hU10 hq10 hn10 hHeld hg8_10 ⊢
          refine wpAnyH_ready (rs := [3]) (by kernel_rfl) (by simp) ?_
          refine AllReadyH.cons rfl (fun K hK => ?_) AllReadyH.nil
          go_simp
          refine (four_any e _).mono ?_
          rintro x u11 ⟨rfl, hq11⟩
          have hU11 : Below w3.heap.size w3 u11 := bstep0 hU10 hq11
          dsimp only
          refine hK.out _ _ hU11 (fun hHeld => ?_)
          clear hK K
          try simp only [Act.put, List.getElem_toArray, List.getElem_cons_zero, List.getElem_cons_succ, List.setIfInBounds_toArray, List.set_cons_zero, List.set_cons_succ]
          have hg8_11 := (hq11.block _ (Array.getElem?_eq_some_iff.1 hg8_10).1).trans hg8_10
          have hg9_11 := (hq11.block _ (Array.getElem?_eq_some_iff.1 hn10).1).trans hn10
          have s60 := cell_of_row u11 _ 0 _ _ _ hg8_11
          have s61 := cell_of_row u11 _ 1 _ _ _ hg8_11
          have s62 := cell_of_row u11 _ 2 _ _ _ hg8_11
          have s63 := cell_of_row u11 _ 3 _ _ _ hg8_11
          have t60 := free_of_row hg8_11 0
          have t61 := free_of_row hg8_11 1
          have t62 := free_of_row hg8_11 2
          have t63 := free_of_row hg8_11 3
          obtain ⟨r6, a6⟩ := set4 hg8_11 (.int .i64 p.th) (.int .i64 p.obj) (.int .i64 p.a) (.int .i64 p.b)
          have l6 := (hU11.trans (a6.below (B := w3.heap.size) hU11.size fun b hb => by subst hb; exact hz7))
          have m6 := (a6.block _ (Array.getElem?_eq_some_iff.1 hg9_11).1 hne.symm).trans hg9_11
          refine wpAnyH_ready (rs := [6]) (by kernel_rfl) (by simp) ?_
          refine AllReadyH.cons rfl (fun K hK => ?_) AllReadyH.nil
          go_simp
          refine hK.out _ _ l6 (fun hHeld => ?_)
          clear hK K s60 s61 s62 s63 t60 t61 t62 t63
          try simp only [Act.put, List.getElem_toArray, List.getElem_cons_zero, List.getElem_cons_succ, List.setIfInBounds_toArray, List.set_cons_zero, List.set_cons_succ]
          generalize ((((u11.setCell ⟨u1.heap.size, 0, none⟩ (.int .i64 p.th)).setCell ⟨u1.heap.size, 1, none⟩ (.int .i64 p.obj)).setCell ⟨u1.heap.size, 2, none⟩ (.int .i64 p.a)).setCell ⟨u1.heap.size, 3, none⟩ (.int .i64 p.b)) = v6 at r6 a6 l6 m6 hHeld ⊢
          have s70 := cell_of_row v6 _ 0 _ _ _ m6
          have s71 := cell_of_row v6 _ 1 _ _ _ m6
          have s72 := cell_of_row v6 _ 2 _ _ _ m6
          have s73 := cell_of_row v6 _ 3 _ _ _ m6
          have t70 := free_of_row m6 0
          have t71 := free_of_row m6 1
          have t72 := free_of_row m6 2
          have t73 := free_of_row m6 3
          obtain ⟨r7, a7⟩ := set4 m6 (.int .i64 e.th) (.int .i64 e.obj) (.int .i64 e.a) (.int .i64 e.b)
          have l7 := (l6.trans (a7.below (B := w3.heap.size) l6.size fun b hb => by subst hb; exact hz10))
          have m7 := (a7.block _ (Array.getElem?_eq_some_iff.1 r6).1 hne).trans r6
          refine wpAnyH_ready (rs := [7]) (by kernel_rfl) (by simp) ?_
          refine AllReadyH.cons rfl (fun K hK => ?_) AllReadyH.nil
          go_simp
          refine hK.out _ _ l7 (fun hHeld => ?_)
          clear hK K s70 s71 s72 s73 t70 t71 t72 t73
          try simp only [Act.put, List.getElem_toArray, List.getElem_cons_zero, List.getElem_cons_succ, List.setIfInBounds_toArray, List.set_cons_zero, List.set_cons_succ]
          generalize ((((v6.setCell ⟨u7.heap.size, 0, none⟩ (.int .i64 e.th)).setCell ⟨u7.heap.size, 1, none⟩ (.int .i64 e.obj)).setCell ⟨u7.heap.size, 2, none⟩ (.int .i64 e.a)).setCell ⟨u7.heap.size, 3, none⟩ (.int .i64 e.b)) = v7 at r7 a7 l7 m7 hHeld ⊢
          refine wpAnyH_done (by kernel_rfl) ?_ _
          go_wp2_with fail
          go_meet
          exact ⟨_, _, rfl, rfl, m7, r7, l7⟩
      · skip
        go_simp
        have hU12 : Below w3.heap.size w3 (u1.alloc (.cells #[.int .i64 0, .int .i64 0, .int .i64 0, .int .i64 0] 131)) := hU1.alloc (hU1.size) _
        have hq12 : Below u1.heap.size u1 (u1.alloc (.cells #[.int .i64 0, .int .i64 0, .int .i64 0, .int .i64 0] 131)) := (Below.refl _ _).alloc (Nat.le_refl _) _
        have hn12 : (u1.alloc (.cells #[.int .i64 0, .int .i64 0, .int .i64 0, .int .i64 0] 131)).heap[u1.heap.size]? = some (.cells #[.int .i64 0, .int .i64 0, .int .i64 0, .int .i64 0] 131 (0, 0)) := heap_alloc_new _ _
        have hz12 := hU1.size
        refine hK.out _ _ hU12 (fun hHeld => ?_)
        clear hK K
        try simp only [Act.put, List.getElem_toArray, List.getElem_cons_zero, List.getElem_cons_succ, List.setIfInBounds_toArray, List.set_cons_zero, List.set_cons_succ]
        generalize u1.alloc (.cells #[.int .i64 0, .int .i64 0, .int .i64 0, .int .i64 0] 131) = u12 at hU12 hq12 hn12 hHeld ⊢
        refine wpAnyH_ready (rs := [3, 4]) (by kernel_rfl) (by simp) ?_
        refine AllReadyH.cons rfl (fun K hK => ?_) (AllReadyH.cons rfl (fun K hK => ?_) AllReadyH.nil)
        · skip
          go_simp
          refine (four_any e _).mono ?_
          rintro x u13 ⟨rfl, hq13⟩
          have hU13 : Below w3.heap.size w3 u13 := bstep0 hU12 hq13
          dsimp only
          refine hK.out _ _ hU13 (fun hHeld => ?_)
          clear hK K
          try simp only [Act.put, List.getElem_toArray, List.getElem_cons_zero, List.getElem_cons_succ, List.setIfInBounds_toArray, List.set_cons_zero, List.set_cons_succ]
          have hg9_13 := (hq13.block _ (Array.getElem?_eq_some_iff.1 hn12).1).trans hn12
          refine wpAnyH_ready (rs := [4]) (by kernel_rfl) (by simp) ?_
          refine AllReadyH.cons rfl (fun K hK => ?_) AllReadyH.nil
          go_simp
          have hU14 : Below w3.heap.size w3 (u13.alloc (.cells #[.int .i64 0, .int .i64 0, .int .i64 0, .int .i64 0] 131)) := hU13.alloc (hU13.size) _
          have hq14 : Below u13.heap.size u13 (u13.alloc (.cells #[.int .i64 0, .int .i64 0, .int .i64 0, .int .i64 0] 131)) := (Below.refl _ _).alloc (Nat.le_refl _) _
          have hn14 : (u13.alloc (.cells #[.int .i64 0, .int .i64 0, .int .i64 0, .int .i64 0] 131)).heap[u13.heap.size]? = some (.cells #[.int .i64 0, .int .i64 0, .int .i64 0, .int .i64 0] 131 (0, 0)) := heap_alloc_new _ _
          have hz14 := hU13.size
          have hg9_14 := (hq14.block _ (Array.getElem?_eq_some_iff.1 hg9_13).1).trans hg9_13
          have hne : u13.heap.size ≠ u1.heap.size := by have := (Array.getElem?_eq_some_iff.1 hg9_13).1; omega
          refine hK.out _ _ hU14 (fun hHeld => ?_)
          clear hK K
          try simp only [Act.put, List.getElem_toArray, List.getElem_cons_zero, List.getElem_cons_succ, List.setIfInBounds_toArray, List.set_cons_zero, List.set_cons_succ]
          generalize u13.alloc (.cells #[.int .i64 0, .int .i64 0, .int .i64 0, .int .i64 0] 131) = u14 at hU14 hq14 hn14 hHeld hg9_14 ⊢
          have s60 := cell_of_row u14 _ 0 _ _ _ hn14
          have s61 := cell_of_row u14 _ 1 _ _ _ hn14
          have s62 := cell_of_row u14 _ 2 _ _ _ hn14
          have s63 := cell_of_row u14 _ 3 _ _ _ hn14
          have t60 := free_of_row hn14 0
          have t61 := free_of_row hn14 1
          have t62 := free_of_row hn14 2
          have t63 := free_of_row hn14 3
          obtain ⟨r6, a6⟩ := set4 hn14 (.int .i64 p.th) (.int .i64 p.obj) (.int .i64 p.a) (.int .i64 p.b)
          have l6 := (hU14.trans (a6.below (B := w3.heap.size) hU14.size fun b hb => by subst hb; exact hz14))
          have m6 := (a6.block _ (Array.getElem?_eq_some_iff.1 hg9_14).1 hne.symm).trans hg9_14
          refine wpAnyH_ready (rs := [6]) (by kernel_rfl) (by simp) ?_
          refine AllReadyH.cons rfl (fun K hK => ?_) AllReadyH.nil
          go_simp
          refine hK.out _ _ l6 (fun hHeld => ?_)
          clear hK K s60 s61 s62 s63 t60 t61 t62 t63
          try simp only [Act.put, List.getElem_toArray, List.getElem_cons_zero, List.getElem_cons_succ, List.setIfInBounds_toArray, List.set_cons_zero, List.set_cons_succ]
          generalize ((((u14.setCell ⟨u13.heap.size, 0, none⟩ (.int .i64 p.th)).setCell ⟨u13.heap.size, 1, none⟩ (.int .i64 p.obj)).setCell ⟨u13.heap.size, 2, none⟩ (.int .i64 p.a)).setCell ⟨u13.heap.size, 3, none⟩ (.int .i64 p.b)) = v6 at r6 a6 l6 m6 hHeld ⊢
          have s70 := cell_of_row v6 _ 0 _ _ _ m6
          have s71 := cell_of_row v6 _ 1 _ _ _ m6
          have s72 := cell_of_row v6 _ 2 _ _ _ m6
          have s73 := cell_of_row v6 _ 3 _ _ _ m6
          have t70 := free_of_row m6 0
          have t71 := free_of_row m6 1
          have t72 := free_of_row m6 2
          have t73 := free_of_row m6 3
          obtain ⟨r7, a7⟩ := set4 m6 (.int .i64 e.th) (.int .i64 e.obj) (.int .i64 e.a) (.int .i64 e.b)
          have l7 := (l6.trans (a7.below (B := w3.heap.size) l6.size fun b hb => by subst hb; exact hz12))
          have m7 := (a7.block _ (Array.getElem?_eq_some_iff.1 r6).1 hne).trans r6
          refine wpAnyH_ready (rs := [7]) (by kernel_rfl) (by simp) ?_
          refine AllReadyH.cons rfl (fun K hK => ?_) AllReadyH.nil
          go_simp
          refine hK.out _ _ l7 (fun hHeld => ?_)
          clear hK K s70 s71 s72 s73 t70 t71 t72 t73
          try simp only [Act.put, List.getElem_toArray, List.getElem_cons_zero, List.getElem_cons_succ, List.setIfInBounds_toArray, List.set_cons_zero, List.set_cons_succ]
          generalize ((((v6.setCell ⟨u1.heap.size, 0, none⟩ (.int .i64 e.th)).setCell ⟨u1.heap.size, 1, none⟩ (.int .i64 e.obj)).setCell ⟨u1.heap.size, 2, none⟩ (.int .i64 e.a)).setCell ⟨u1.heap.size, 3, none⟩ (.int .i64 e.b)) = v7 at r7 a7 l7 m7 hHeld ⊢
          refine wpAnyH_done (by kernel_rfl) ?_ _
          go_wp2_with fail
          go_meet
          exact ⟨_, _, rfl, rfl, m7, r7, l7⟩
        · skip
          go_simp
          have hU15 : Below w3.heap.size w3 (u12.alloc (.cells #[.int .i64 0, .int .i64 0, .int .i64 0, .int .i64 0] 131)) := hU12.alloc (hU12.size) _
          have hq15 : Below u12.heap.size u12 (u12.alloc (.cells #[.int .i64 0, .int .i64 0, .int .i64 0, .int .i64 0] 131)) := (Below.refl _ _).alloc (Nat.le_refl _) _
          have hn15 : (u12.alloc (.cells #[.int .i64 0, .int .i64 0, .int .i64 0, .int .i64 0] 131)).heap[u12.heap.size]? = some (.cells #[.int .i64 0, .int .i64 0, .int .i64 0, .int .i64 0] 131 (0, 0)) := heap_alloc_new _ _
          have hz15 := hU12.size
          have hg9_15 := (hq15.block _ (Array.getElem?_eq_some_iff.1 hn12).1).trans hn12
          have hne : u12.heap.size ≠ u1.heap.size := by have := (Array.getElem?_eq_some_iff.1 hn12).1; omega
          refine hK.out _ _ hU15 (fun hHeld => ?_)
          clear hK K
          try simp only [Act.put, List.getElem_toArray, List.getElem_cons_zero, List.getElem_cons_succ, List.setIfInBounds_toArray, List.set_cons_zero, List.set_cons_succ]
          generalize u12.alloc (.cells #[.int .i64 0, .int .i64 0, .int .i64 0, .int .i64 0] 131) = u15 at hU15 hq15 hn15 hHeld hg9_15 ⊢
          refine wpAnyH_ready (rs := [3]) (by kernel_rfl) (by simp) ?_
          refine AllReadyH.cons rfl (fun K hK => ?_) AllReadyH.nil
          go_simp
          refine (four_any e _).mono ?_
          rintro x u16 ⟨rfl, hq16⟩
          have hU16 : Below w3.heap.size w3 u16 := bstep0 hU15 hq16
          dsimp only
          refine hK.out _ _ hU16 (fun hHeld => ?_)
          clear hK K
          try simp only [Act.put, List.getElem_toArray, List.getElem_cons_zero, List.getElem_cons_succ, List.setIfInBounds_toArray, List.set_cons_zero, List.set_cons_succ]
          have hg8_16 := (hq16.block _ (Array.getElem?_eq_some_iff.1 hn15).1).trans hn15
          have hg9_16 := (hq16.block _ (Array.getElem?_eq_some_iff.1 hg9_15).1).trans hg9_15
          have s60 := cell_of_row u16 _ 0 _ _ _ hg8_16
          have s61 := cell_of_row u16 _ 1 _ _ _ hg8_16
          have s62 := cell_of_row u16 _ 2 _ _ _ hg8_16
          have s63 := cell_of_row u16 _ 3 _ _ _ hg8_16
          have t60 := free_of_row hg8_16 0
          have t61 := free_of_row hg8_16 1
          have t62 := free_of_row hg8_16 2
          have t63 := free_of_row hg8_16 3
          obtain ⟨r6, a6⟩ := set4 hg8_16 (.int .i64 p.th) (.int .i64 p.obj) (.int .i64 p.a) (.int .i64 p.b)
          have l6 := (hU16.trans (a6.below (B := w3.heap.size) hU16.size fun b hb => by subst hb; exact hz15))
          have m6 := (a6.block _ (Array.getElem?_eq_some_iff.1 hg9_16).1 hne.symm).trans hg9_16
          refine wpAnyH_ready (rs := [6]) (by kernel_rfl) (by simp) ?_
          refine AllReadyH.cons rfl (fun K hK => ?_) AllReadyH.nil
          go_simp
          refine hK.out _ _ l6 (fun hHeld => ?_)
          clear hK K s60 s61 s62 s63 t60 t61 t62 t63
          try simp only [Act.put, List.getElem_toArray, List.getElem_cons_zero, List.getElem_cons_succ, List.setIfInBounds_toArray, List.set_cons_zero, List.set_cons_succ]
          generalize ((((u16.setCell ⟨u12.heap.size, 0, none⟩ (.int .i64 p.th)).setCell ⟨u12.heap.size, 1, none⟩ (.int .i64 p.obj)).setCell ⟨u12.heap.size, 2, none⟩ (.int .i64 p.a)).setCell ⟨u12.heap.size, 3, none⟩ (.int .i64 p.b)) = v6 at r6 a6 l6 m6 hHeld ⊢
          have s70 := cell_of_row v6 _ 0 _ _ _ m6
          have s71 := cell_of_row v6 _ 1 _ _ _ m6
          have s72 := cell_of_row v6 _ 2 _ _ _ m6
          have s73 := cell_of_row v6 _ 3 _ _ _ m6
          have t70 := free_of_row m6 0
          have t71 := free_of_row m6 1
          have t72 := free_of_row m6 2
          have t73 := free_of_row m6 3
          obtain ⟨r7, a7⟩ := set4 m6 (.int .i64 e.th) (.int .i64 e.obj) (.int .i64 e.a) (.int .i64 e.b)
          have l7 := (l6.trans (a7.below (B := w3.heap.size) l6.size fun b hb => by subst hb; exact hz12))
          have m7 := (a7.block _ (Array.getElem?_eq_some_iff.1 r6).1 hne).trans r6
          refine wpAnyH_ready (rs := [7]) (by kernel_rfl) (by simp) ?_
          refine AllReadyH.cons rfl (fun K hK => ?_) AllReadyH.nil
          go_simp
          refine hK.out _ _ l7 (fun hHeld => ?_)
          clear hK K s70 s71 s72 s73 t70 t71 t72 t73
          try simp only [Act.put, List.getElem_toArray, List.getElem_cons_zero, List.getElem_cons_succ, List.setIfInBounds_toArray, List.set_cons_zero, List.set_cons_succ]
          generalize ((((v6.setCell ⟨u1.heap.size, 0, none⟩ (.int .i64 e.th)).setCell ⟨u1.heap.size, 1, none⟩ (.int .i64 e.obj)).setCell ⟨u1.heap.size, 2, none⟩ (.int .i64 e.a)).setCell ⟨u1.heap.size, 3, none⟩ (.int .i64 e.b)) = v7 at r7 a7 l7 m7 hHeld ⊢
          refine wpAnyH_done (by kernel_rfl) ?_ _
          go_wp2_with fail
          go_meet
          exact ⟨_, _, rfl, rfl, m7, r7, l7⟩
    · skip
      go_simp
      have hU17 : Below w3.heap.size w3 (wd.alloc (.cells #[.int .i64 0, .int .i64 0, .int .i64 0, .int .i64 0] 131)) := hBase.alloc (hBase.size) _
      have hq17 : Below wd.heap.size wd (wd.alloc (.cells #[.int .i64 0, .int .i64 0, .int .i64 0, .int .i64 0] 131)) := (Below.refl _ _).alloc (Nat.le_refl _) _
      have hn17 : (wd.alloc (.cells #[.int .i64 0, .int .i64 0, .int .i64 0, .int .i64 0] 131)).heap[wd.heap.size]? = some (.cells #[.int .i64 0, .int .i64 0, .int .i64 0, .int .i64 0] 131 (0, 0)) := heap_alloc_new _ _
      have hz17 := hBase.size
      refine hK.out _ _ hU17 (fun hHeld => ?_)
      clear hK K
      try simp only [Act.put, List.getElem_toArray, List.getElem_cons_zero, List.getElem_cons_succ, List.setIfInBounds_toArray, List.set_cons_zero, List.set_cons_succ]
      generalize wd.alloc (.cells #[.int .i64 0, .int .i64 0, .int .i64 0, .int .i64 0] 131) = u17 at hU17 hq17 hn17 hHeld ⊢
      refine wpAnyH_ready (rs := [1, 5]) (by kernel_rfl) (by simp) ?_
      refine AllReadyH.cons rfl (fun K hK => ?_) (AllReadyH.cons rfl (fun K hK => ?_) AllReadyH.nil)
      · skip
        go_simp
        refine (four_any p _).mono ?_
        rintro x u18 ⟨rfl, hq18⟩
        have hU18 : Below w3.heap.size w3 u18 := bstep0 hU17 hq18
        dsimp only
        refine hK.out _ _ hU18 (fun hHeld => ?_)
        clear hK K
        try simp only [Act.put, List.getElem_toArray, List.getElem_cons_zero, List.getElem_cons_succ, List.setIfInBounds_toArray, List.set_cons_zero, List.set_cons_succ]
        have hg8_18 := (hq18.block _ (Array.getElem?_eq_some_iff.1 hn17).1).trans hn17
        refine wpAnyH_ready (rs := [3, 5]) (by kernel_rfl) (by simp) ?_
        refine AllReadyH.cons rfl (fun K hK => ?_) (AllReadyH.cons rfl (fun K hK => ?_) AllReadyH.nil)
        · skip
          go_simp
          refine (four_any e _).mono ?_
          rintro x u19 ⟨rfl, hq19⟩
          have hU19 : Below w3.heap.size w3 u19 := bstep0 hU18 hq19
          dsimp only
          refine hK.out _ _ hU19 (fun hHeld => ?_)
          clear hK K
          try simp only [Act.put, List.getElem_toArray, List.getElem_cons_zero, List.getElem_cons_succ, List.setIfInBounds_toArray, List.set_cons_zero, List.set_cons_succ]
          have hg8_19 := (hq19.block _ (Array.getElem?_eq_some_iff.1 hg8_18).1).trans hg8_18
          refine wpAnyH_ready (rs := [5]) (by kernel_rfl) (by simp) ?_
          refine AllReadyH.cons rfl (fun K hK => ?_) AllReadyH.nil
          go_simp
          have hU20 : Below w3.heap.size w3 (u19.alloc (.cells #[.int .i64 0, .int .i64 0, .int .i64 0, .int .i64 0] 131)) := hU19.alloc (hU19.size) _
          have hq20 : Below u19.heap.size u19 (u19.alloc (.cells #[.int .i64 0, .int .i64 0, .int .i64 0, .int .i64 0] 131)) := (Below.refl _ _).alloc (Nat.le_refl _) _
          have hn20 : (u19.alloc (.cells #[.int .i64 0, .int .i64 0, .int .i64 0, .int .i64 0] 131)).heap[u19.heap.size]? = some (.cells #[.int .i64 0, .int .i64 0, .int .i64 0, .int .i64 0] 131 (0, 0)) := heap_alloc_new _ _
          have hz20 := hU19.size
          have hg8_20 := (hq20.block _ (Array.getElem?_eq_some_iff.1 hg8_19).1).trans hg8_19
          have hne : wd.heap.size ≠ u19.heap.size := by have := (Array.getElem?_eq_some_iff.1 hg8_19).1; omega
          refine hK.out _ _ hU20 (fun hHeld => ?_)
          clear hK K
          try simp only [Act.put, List.getElem_toArray, List.getElem_cons_zero, List.getElem_cons_succ, List.setIfInBounds_toArray, List.set_cons_zero, List.set_cons_succ]
          generalize u19.alloc (.cells #[.int .i64 0, .int .i64 0, .int .i64 0, .int .i64 0] 131) = u20 at hU20 hq20 hn20 hHeld hg8_20 ⊢
          have s60 := cell_of_row u20 _ 0 _ _ _ hg8_20
          have s61 := cell_of_row u20 _ 1 _ _ _ hg8_20
          have s62 := cell_of_row u20 _ 2 _ _ _ hg8_20
          have s63 := cell_of_row u20 _ 3 _ _ _ hg8_20
          have t60 := free_of_row hg8_20 0
          have t61 := free_of_row hg8_20 1
          have t62 := free_of_row hg8_20 2
          have t63 := free_of_row hg8_20 3
          obtain ⟨r6, a6⟩ := set4 hg8_20 (.int .i64 p.th) (.int .i64 p.obj) (.int .i64 p.a) (.int .i64 p.b)
          have l6 := (hU20.trans (a6.below (B := w3.heap.size) hU20.size fun b hb => by subst hb; exact hz17))
          have m6 := (a6.block _ (Array.getElem?_eq_some_iff.1 hn20).1 hne.symm).trans hn20
          refine wpAnyH_ready (rs := [6]) (by kernel_rfl) (by simp) ?_
          refine AllReadyH.cons rfl (fun K hK => ?_) AllReadyH.nil
          go_simp
          refine hK.out _ _ l6 (fun hHeld => ?_)
          clear hK K s60 s61 s62 s63 t60 t61 t62 t63
          try simp only [Act.put, List.getElem_toArray, List.getElem_cons_zero, List.getElem_cons_succ, List.setIfInBounds_toArray, List.set_cons_zero, List.set_cons_succ]
          generalize ((((u20.setCell ⟨wd.heap.size, 0, none⟩ (.int .i64 p.th)).setCell ⟨wd.heap.size, 1, none⟩ (.int .i64 p.obj)).setCell ⟨wd.heap.size, 2, none⟩ (.int .i64 p.a)).setCell ⟨wd.heap.size, 3, none⟩ (.int .i64 p.b)) = v6 at r6 a6 l6 m6 hHeld ⊢
          have s70 := cell_of_row v6 _ 0 _ _ _ m6
          have s71 := cell_of_row v6 _ 1 _ _ _ m6
          have s72 := cell_of_row v6 _ 2 _ _ _ m6
          have s73 := cell_of_row v6 _ 3 _ _ _ m6
          have t70 := free_of_row m6 0
          have t71 := free_of_row m6 1
          have t72 := free_of_row m6 2
          have t73 := free_of_row m6 3
          obtain ⟨r7, a7⟩ := set4 m6 (.int .i64 e.th) (.int .i64 e.obj) (.int .i64 e.a) (.int .i64 e.b)
          have l7 := (l6.trans (a7.below (B := w3.heap.size) l6.size fun b hb => by subst hb; exact hz20))
          have m7 := (a7.block _ (Array.getElem?_eq_some_iff.1 r6).1 hne).trans r6
          refine wpAnyH_ready (rs := [7]) (by kernel_rfl) (by simp) ?_
          refine AllReadyH.cons rfl (fun K hK => ?_) AllReadyH.nil
          go_simp
          refine hK.out _ _ l7 (fun hHeld => ?_)
          clear hK K s70 s71 s72 s73 t70 t71 t72 t73
          try simp only [Act.put, List.getElem_toArray, List.getElem_cons_zero, List.getElem_cons_succ, List.setIfInBounds_toArray, List.set_cons_zero, List.set_cons_succ]
          generalize ((((v6.setCell ⟨u19.heap.size, 0, none⟩ (.int .i64 e.th)).setCell ⟨u19.heap.size, 1, none⟩ (.int .i64 e.obj)).setCell ⟨u19.heap.size, 2, none⟩ (.int .i64 e.a)).setCell ⟨u19.heap.size, 3, none⟩ (.int .i64 e.b)) = v7 at r7 a7 l7 m7 hHeld ⊢
          refine wpAnyH_done (by kernel_rfl) ?_ _
          go_wp2_with fail
          go_meet
          exact ⟨_, _, rfl, rfl, m7, r7, l7⟩
        · skip
          go_simp
          have hU21 : Below w3.heap.size w3 (u18.alloc (.cells #[.int .i64 0, .int .i64 0, .int .i64 0, .int .i64 0] 131)) := hU18.alloc (hU18.size) _
          have hq21 : Below u18.heap.size u18 (u18.alloc (.cells #[.int .i64 0, .int .i64 0, .int .i64 0, .int .i64 0] 131)) := (Below.refl _ _).alloc (Nat.le_refl _) _
          have hn21 : (u18.alloc (.cells #[.int .i64 0, .int .i64 0, .int .i64 0, .int .i64 0] 131)).heap[u18.heap.size]? = some (.cells #[.int .i64 0, .int .i64 0, .int .i64 0, .int .i64 0] 131 (0, 0)) := heap_alloc_new _ _
          have hz21 := hU18.size
          have hg8_21 := (hq21.block _ (Array.getElem?_eq_some_iff.1 hg8_18).1).trans hg8_18
          have hne : wd.heap.size ≠ u18.heap.size := by have := (Array.getElem?_eq_some_iff.1 hg8_18).1; omega
          refine hK.out _ _ hU21 (fun hHeld => ?_)
          clear hK K
          try simp only [Act.put, List.getElem_toArray, List.getElem_cons_zero, List.getElem_cons_succ, List.setIfInBounds_toArray, List.set_cons_zero, List.set_cons_succ]
          generalize u18.alloc (.cells #[.int .i64 0, .int .i64 0, .int .i64 0, .int .i64 0] 131) = u21 at hU21 hq21 hn21 hHeld hg8_21 ⊢
          refine wpAnyH_ready (rs := [3]) (by kernel_rfl) (by simp) ?_
          refine AllReadyH.cons rfl (fun K hK => ?_) AllReadyH.nil
          go_simp
          refine (four_any e _).mono ?_
          rintro x u22 ⟨rfl, hq22⟩
          have hU22 : Below w3.heap.size w3 u22 := bstep0 hU21 hq22
          dsimp only
          refine hK.out _ _ hU22 (fun hHeld => ?_)
          clear hK K
          try simp only [Act.put, List.getElem_toArray, List.getElem_cons_zero, List.getElem_cons_succ, List.setIfInBounds_toArray, List.set_cons_zero, List.set_cons_succ]
          have hg8_22 := (hq22.block _ (Array.getElem?_eq_some_iff.1 hg8_21).1).trans hg8_21
          have hg9_22 := (hq22.block _ (Array.getElem?_eq_some_iff.1 hn21).1).trans hn21
          have s60 := cell_of_row u22 _ 0 _ _ _ hg8_22
          have s61 := cell_of_row u22 _ 1 _ _ _ hg8_22
          have s62 := cell_of_row u22 _ 2 _ _ _ hg8_22
          have s63 := cell_of_row u22 _ 3 _ _ _ hg8_22
          have t60 := free_of_row hg8_22 0
          have t61 := free_of_row hg8_22 1
          have t62 := free_of_row hg8_22 2
          have t63 := free_of_row hg8_22 3
          obtain ⟨r6, a6⟩ := set4 hg8_22 (.int .i64 p.th) (.int .i64 p.obj) (.int .i64 p.a) (.int .i64 p.b)
          have l6 := (hU22.trans (a6.below (B := w3.heap.size) hU22.size fun b hb => by subst hb; exact hz17))
          have m6 := (a6.block _ (Array.getElem?_eq_some_iff.1 hg9_22).1 hne.symm).trans hg9_22
          refine wpAnyH_ready (rs := [6]) (by kernel_rfl) (by simp) ?_
          refine AllReadyH.cons rfl (fun K hK => ?_) AllReadyH.nil
          go_simp
          refine hK.out _ _ l6 (fun hHeld => ?_)
          clear hK K s60 s61 s62 s63 t60 t61 t62 t63
          try simp only [Act.put, List.getElem_toArray, List.getElem_cons_zero, List.getElem_cons_succ, List.setIfInBounds_toArray, List.set_cons_zero, List.set_cons_succ]
          generalize ((((u22.setCell ⟨wd.heap.size, 0, none⟩ (.int .i64 p.th)).setCell ⟨wd.heap.size, 1, none⟩ (.int .i64 p.obj)).setCell ⟨wd.heap.size, 2, none⟩ (.int .i64 p.a)).setCell ⟨wd.heap.size, 3, none⟩ (.int .i64 p.b)) = v6 at r6 a6 l6 m6 hHeld ⊢
          have s70 := cell_of_row v6 _ 0 _ _ _ m6
          have s71 := cell_of_row v6 _ 1 _ _ _ m6
          have s72 := cell_of_row v6 _ 2 _ _ _ m6
          have s73 := cell_of_row v6 _ 3 _ _ _ m6
          have t70 := free_of_row m6 0
          have t71 := free_of_row m6 1
          have t72 := free_of_row m6 2
          have t73 := free_of_row m6 3
          obtain ⟨r7, a7⟩ := set4 m6 (.int .i64 e.th) (.int .i64 e.obj) (.int .i64 e.a) (.int .i64 e.b)
          have l7 := (l6.trans (a7.below (B := w3.heap.size) l6.size fun b hb => by subst hb; exact hz21))
          have m7 := (a7.block _ (Array.getElem?_eq_some_iff.1 r6).1 hne).trans r6
          refine wpAnyH_ready (rs := [7]) (by kernel_rfl) (by simp) ?_
          refine AllReadyH.cons rfl (fun K hK => ?_) AllReadyH.nil
          go_simp
          refine hK.out _ _ l7 (fun hHeld => ?_)
          clear hK K s70 s71 s72 s73 t70 t71 t72 t73
          try simp only [Act.put, List.getElem_toArray, List.getElem_cons_zero, List.getElem_cons_succ, List.setIfInBounds_toArray, List.set_cons_zero, List.set_cons_succ]
          generalize ((((v6.setCell ⟨u18.heap.size, 0, none⟩ (.int .i64 e.th)).setCell ⟨u18.heap.size, 1, none⟩ (.int .i64 e.obj)).setCell ⟨u18.heap.size, 2, none⟩ (.int .i64 e.a)).setCell ⟨u18.heap.size, 3, none⟩ (.int .i64 e.b)) = v7 at r7 a7 l7 m7 hHeld ⊢
          refine wpAnyH_done (by kernel_rfl) ?_ _
          go_wp2_with fail
          go_meet
          exact ⟨_, _, rfl, rfl, m7, r7, l7⟩
      · skip
        go_simp
        have hU23 : Below w3.heap.size w3 (u17.alloc (.cells #[.int .i64 0, .int .i64 0, .int .i64 0, .int .i64 0] 131)) := hU17.alloc (hU17.size) _
        have hq23 : Below u17.heap.size u17 (u17.alloc (.cells #[.int .i64 0, .int .i64 0, .int .i64 0, .int .i64 0] 131)) := (Below.refl _ _).alloc (Nat.le_refl _) _
        have hn23 : (u17.alloc (.cells #[.int .i64 0, .int .i64 0, .int .i64 0, .int .i64 0] 131)).heap[u17.heap.size]? = some (.cells #[.int .i64 0, .int .i64 0, .int .i64 0, .int .i64 0] 131 (0, 0)) := heap_alloc_new _ _
        have hz23 := hU17.size
        have hg8_23 := (hq23.block _ (Array.getElem?_eq_some_iff.1 hn17).1).trans hn17
        have hne : wd.heap.size ≠ u17.heap.size := by have := (Array.getElem?_eq_some_iff.1 hn17).1; omega
        refine hK.out _ _ hU23 (fun hHeld => ?_)
        clear hK K
        try simp only [Act.put, List.getElem_toArray, List.getElem_cons_zero, List.getElem_cons_succ, List.setIfInBounds_toArray, List.set_cons_zero, List.set_cons_succ]
        generalize u17.alloc (.cells #[.int .i64 0, .int .i64 0, .int .i64 0, .int .i64 0] 131) = u23 at hU23 hq23 hn23 hHeld hg8_23 ⊢
        refine wpAnyH_ready (rs := [1]) (by kernel_rfl) (by simp) ?_
        refine AllReadyH.cons rfl (fun K hK => ?_) AllReadyH.nil
        go_simp
        refine (four_any p _).mono ?_
        rintro x u24 ⟨rfl, hq24⟩
        have hU24 : Below w3.heap.size w3 u24 := bstep0 hU23 hq24
        dsimp only
        refine hK.out _ _ hU24 (fun hHeld => ?_)
        clear hK K
        try simp only [Act.put, List.getElem_toArray, List.getElem_cons_zero, List.getElem_cons_succ, List.setIfInBounds_toArray, List.set_cons_zero, List.set_cons_succ]
        have hg8_24 := (hq24.block _ (Array.getElem?_eq_some_iff.1 hg8_23).1).trans hg8_23
        have hg9_24 := (hq24.block _ (Array.getElem?_eq_some_iff.1 hn23).1).trans hn23
        refine wpAnyH_ready (rs := [3]) (by kernel_rfl) (by simp) ?_
        refine AllReadyH.cons rfl (fun K hK => ?_) AllReadyH.nil
        go_simp
        refine (four_any e _).mono ?_
        rintro x u25 ⟨rfl, hq25⟩
        have hU25 : Below w3.heap.size w3 u25 := bstep0 hU24 hq25
        dsimp only
        refine hK.out _ _ hU25 (fun hHeld => ?_)
        clear hK K
        try simp only [Act.put, List.getElem_toArray, List.getElem_cons_zero, List.getElem_cons_succ, List.setIfInBounds_toArray, List.set_cons_zero, List.set_cons_succ]
        have hg8_25 := (hq25.block _ (Array.getElem?_eq_some_iff.1 hg8_24).1).trans hg8_24
        have hg9_25 := (hq25.block _ (Array.getElem?_eq_some_iff.1 hg9_24).1).trans hg9_24
        have s60 := cell_of_row u25 _ 0 _ _ _ hg8_25
        have s61 := cell_of_row u25 _ 1 _ _ _ hg8_25
        have s62 := cell_of_row u25 _ 2 _ _ _ hg8_25
        have s63 := cell_of_row u25 _ 3 _ _ _ hg8_25
        have t60 := free_of_row hg8_25 0
        have t61 := free_of_row hg8_25 1
        have t62 := free_of_row hg8_25 2
        have t63 := free_of_row hg8_25 3
        obtain ⟨r6, a6⟩ := set4 hg8_25 (.int .i64 p.th) (.int .i64 p.obj) (.int .i64 p.a) (.int .i64 p.b)
        have l6 := (hU25.trans (a6.below (B := w3.heap.size) hU25.size fun b hb => by subst hb; exact hz17))
        have m6 := (a6.block _ (Array.getElem?_eq_some_iff.1 hg9_25).1 hne.symm).trans hg9_25
        refine wpAnyH_ready (rs := [6]) (by kernel_rfl) (by simp) ?_
        refine AllReadyH.cons rfl (fun K hK => ?_) AllReadyH.nil
        go_simp
        refine hK.out _ _ l6 (fun hHeld => ?_)
        clear hK K s60 s61 s62 s63 t60 t61 t62 t63
        try simp only [Act.put, List.getElem_toArray, List.getElem_cons_zero, List.getElem_cons_succ, List.setIfInBounds_toArray, List.set_cons_zero, List.set_cons_succ]
        generalize ((((u25.setCell ⟨wd.heap.size, 0, none⟩ (.int .i64 p.th)).setCell ⟨wd.heap.size, 1, none⟩ (.int .i64 p.obj)).setCell ⟨wd.heap.size, 2, none⟩ (.int .i64 p.a)).setCell ⟨wd.heap.size, 3, none⟩ (.int .i64 p.b)) = v6 at r6 a6 l6 m6 hHeld ⊢
        have s70 := cell_of_row v6 _ 0 _ _ _ m6
        have s71 := cell_of_row v6 _ 1 _ _ _ m6
        have s72 := cell_of_row v6 _ 2 _ _ _ m6
        have s73 := cell_of_row v6 _ 3 _ _ _ m6
        have t70 := free_of_row m6 0
        have t71 := free_of_row m6 1
        have t72 := free_of_row m6 2
        have t73 := free_of_row m6 3
        obtain ⟨r7, a7⟩ := set4 m6 (.int .i64 e.th) (.int .i64 e.obj) (.int .i64 e.a) (.int .i64 e.b)
        have l7 := (l6.trans (a7.below (B := w3.heap.size) l6.size fun b hb => by subst hb; exact hz23))
        have m7 := (a7.block _ (Array.getElem?_eq_some_iff.1 r6).1 hne).trans r6
        refine wpAnyH_ready (rs := [7]) (by kernel_rfl) (by simp) ?_
        refine AllReadyH.cons rfl (fun K hK => ?_) AllReadyH.nil
        go_simp
        refine hK.out _ _ l7 (fun hHeld => ?_)
        clear hK K s70 s71 s72 s73 t70 t71 t72 t73
        try simp only [Act.put, List.getElem_toArray, List.getElem_cons_zero, List.getElem_cons_succ, List.setIfInBounds_toArray, List.set_cons_zero, List.set_cons_succ]
        generalize ((((v6.setCell ⟨u17.heap.size, 0, none⟩ (.int .i64 e.th)).setCell ⟨u17.heap.size, 1, none⟩ (.int .i64 e.obj)).setCell ⟨u17.heap.size, 2, none⟩ (.int .i64 e.a)).setCell ⟨u17.heap.size, 3, none⟩ (.int .i64 e.b)) = v7 at r7 a7 l7 m7 hHeld ⊢
        refine wpAnyH_done (by kernel_rfl) ?_ _
        go_wp2_with fail
        go_meet
        exact ⟨_, _, rfl, rfl, m7, r7, l7⟩
    · skip
      go_simp
      have hU26 : Below w3.heap.size w3 (wd.alloc (.cells #[.int .i64 0, .int .i64 0, .int .i64 0, .int .i64 0] 131)) := hBase.alloc (hBase.size) _
      have hq26 : Below wd.heap.size wd (wd.alloc (.cells #[.int .i64 0, .int .i64 0, .int .i64 0, .int .i64 0] 131)) := (Below.refl _ _).alloc (Nat.le_refl _) _
      have hn26 : (wd.alloc (.cells #[.int .i64 0, .int .i64 0, .int .i64 0, .int .i64 0] 131)).heap[wd.heap.size]? = some (.cells #[.int .i64 0, .int .i64 0, .int .i64 0, .int .i64 0] 131 (0, 0)) := heap_alloc_new _ _
      have hz26 := hBase.size
      refine hK.out _ _ hU26 (fun hHeld => ?_)
      clear hK K
      try simp only [Act.put, List.getElem_toArray, List.getElem_cons_zero, List.getElem_cons_succ, List.setIfInBounds_toArray, List.set_cons_zero, List.set_cons_succ]
      generalize wd.alloc (.cells #[.int .i64 0, .int .i64 0, .int .i64 0, .int .i64 0] 131) = u26 at hU26 hq26 hn26 hHeld ⊢
      refine wpAnyH_ready (rs := [1, 4]) (by kernel_rfl) (by simp) ?_
      refine AllReadyH.cons rfl (fun K hK => ?_) (AllReadyH.cons rfl (fun K hK => ?_) AllReadyH.nil)
      · skip
        go_simp
        refine (four_any p _).mono ?_
        rintro x u27 ⟨rfl, hq27⟩
        have hU27 : Below w3.heap.size w3 u27 := bstep0 hU26 hq27
        dsimp only
        refine hK.out _ _ hU27 (fun hHeld => ?_)
        clear hK K
        try simp only [Act.put, List.getElem_toArray, List.getElem_cons_zero, List.getElem_cons_succ, List.setIfInBounds_toArray, List.set_cons_zero, List.set_cons_succ]
        have hg9_27 := (hq27.block _ (Array.getElem?_eq_some_iff.1 hn26).1).trans hn26
        refine wpAnyH_ready (rs := [3, 4]) (by kernel_rfl) (by simp) ?_
        refine AllReadyH.cons rfl (fun K hK => ?_) (AllReadyH.cons rfl (fun K hK => ?_) AllReadyH.nil)
        · skip
          go_simp
          refine (four_any e _).mono ?_
          rintro x u28 ⟨rfl, hq28⟩
          have hU28 : Below w3.heap.size w3 u28 := bstep0 hU27 hq28
          dsimp only
          refine hK.out _ _ hU28 (fun hHeld => ?_)
          clear hK K
          try simp only [Act.put, List.getElem_toArray, List.getElem_cons_zero, List.getElem_cons_succ, List.setIfInBounds_toArray, List.set_cons_zero, List.set_cons_succ]
          have hg9_28 := (hq28.block _ (Array.getElem?_eq_some_iff.1 hg9_27).1).trans hg9_27
          refine wpAnyH_ready (rs := [4]) (by kernel_rfl) (by simp) ?_
          refine AllReadyH.cons rfl (fun K hK => ?_) AllReadyH.nil
          go_simp
          have hU29 : Below w3.heap.size w3 (u28.alloc (.cells #[.int .i64 0, .int .i64 0, .int .i64 0, .int .i64 0] 131)) := hU28.alloc (hU28.size) _
          have hq29 : Below u28.heap.size u28 (u28.alloc (.cells #[.int .i64 0, .int .i64 0, .int .i64 0, .int .i64 0] 131)) := (Below.refl _ _).alloc (Nat.le_refl _) _
          have hn29 : (u28.alloc (.cells #[.int .i64 0, .int .i64 0, .int .i64 0, .int .i64 0] 131)).heap[u28.heap.size]? = some (.cells #[.int .i64 0, .int .i64 0, .int .i64 0, .int .i64 0] 131 (0, 0)) := heap_alloc_new _ _
          have hz29 := hU28.size
          have hg9_29 := (hq29.block _ (Array.getElem?_eq_some_iff.1 hg9_28).1).trans hg9_28
          have hne : u28.heap.size ≠ wd.heap.size := by have := (Array.getElem?_eq_some_iff.1 hg9_28).1; omega
          refine hK.out _ _ hU29 (fun hHeld => ?_)
          clear hK K
          try simp only [Act.put, List.getElem_toArray, List.getElem_cons_zero, List.getElem_cons_succ, List.setIfInBounds_toArray, List.set_cons_zero, List.set_cons_succ]
          generalize u28.alloc (.cells #[.int .i64 0, .int .i64 0, .int .i64 0, .int .i64 0] 131) = u29 at hU29 hq29 hn29 hHeld hg9_29 ⊢
          have s60 := cell_of_row u29 _ 0 _ _ _ hn29
          have s61 := cell_of_row u29 _ 1 _ _ _ hn29
          have s62 := cell_of_row u29 _ 2 _ _ _ hn29
          have s63 := cell_of_row u29 _ 3 _ _ _ hn29
          have t60 := free_of_row hn29 0
          have t61 := free_of_row hn29 1
          have t62 := free_of_row hn29 2
          have t63 := free_of_row hn29 3
          obtain ⟨r6, a6⟩ := set4 hn29 (.int .i64 p.th) (.int .i64 p.obj) (.int .i64 p.a) (.int .i64 p.b)
          have l6 := (hU29.trans (a6.below (B := w3.heap.size) hU29.size fun b hb => by subst hb; exact hz29))
          have m6 := (a6.block _ (Array.getElem?_eq_some_iff.1 hg9_29).1 hne.symm).trans hg9_29
          refine wpAnyH_ready (rs := [6]) (by kernel_rfl) (by simp) ?_
          refine AllReadyH.cons rfl (fun K hK => ?_) AllReadyH.nil
          go_simp
          refine hK.out _ _ l6 (fun hHeld => ?_)
          clear hK K s60 s61 s62 s63 t60 t61 t62 t63
          try simp only [Act.put, List.getElem_toArray, List.getElem_cons_zero, List.getElem_cons_succ, List.setIfInBounds_toArray, List.set_cons_zero, List.set_cons_succ]
          generalize ((((u29.setCell ⟨u28.heap.size, 0, none⟩ (.int .i64 p.th)).setCell ⟨u28.heap.size, 1, none⟩ (.int .i64 p.obj)).setCell ⟨u28.heap.size, 2, none⟩ (.int .i64 p.a)).setCell ⟨u28.heap.size, 3, none⟩ (.int .i64 p.b)) = v6 at r6 a6 l6 m6 hHeld ⊢
          have s70 := cell_of_row v6 _ 0 _ _ _ m6
          have s71 := cell_of_row v6 _ 1 _ _ _ m6
          have s72 := cell_of_row v6 _ 2 _ _ _ m6
          have s73 := cell_of_row v6 _ 3 _ _ _ m6
          have t70 := free_of_row m6 0
          have t71 := free_of_row m6 1
          have t72 := free_of_row m6 2
          have t73 := free_of_row m6 3
          obtain ⟨r7, a7⟩ := set4 m6 (.int .i64 e.th) (.int .i64 e.obj) (.int .i64 e.a) (.int .i64 e.b)
          have l7 := (l6.trans (a7.below (B := w3.heap.size) l6.size fun b hb => by subst hb; exact hz26))
          have m7 := (a7.block _ (Array.getElem?_eq_some_iff.1 r6).1 hne).trans r6
          refine wpAnyH_ready (rs := [7]) (by kernel_rfl) (by simp) ?_
          refine AllReadyH.cons rfl (fun K hK => ?_) AllReadyH.nil
          go_simp
          refine hK.out _ _ l7 (fun hHeld => ?_)
          clear hK K s70 s71 s72 s73 t70 t71 t72 t73
          try simp only [Act.put, List.getElem_toArray, List.getElem_cons_zero, List.getElem_cons_succ, List.setIfInBounds_toArray, List.set_cons_zero, List.set_cons_succ]
          generalize ((((v6.setCell ⟨wd.heap.size, 0, none⟩ (.int .i64 e.th)).setCell ⟨wd.heap.size, 1, none⟩ (.int .i64 e.obj)).setCell ⟨wd.heap.size, 2, none⟩ (.int .i64 e.a)).setCell ⟨wd.heap.size, 3, none⟩ (.int .i64 e.b)) = v7 at r7 a7 l7 m7 hHeld ⊢
          refine wpAnyH_done (by kernel_rfl) ?_ _
          go_wp2_with fail
          go_meet
          exact ⟨_, _, rfl, rfl, m7, r7, l7⟩
        · skip
          go_simp
          have hU30 : Below w3.heap.size w3 (u27.alloc (.cells #[.int .i64 0, .int .i64 0, .int .i64 0, .int .i64 0] 131)) := hU27.alloc (hU27.size) _
          have hq30 : Below u27.heap.size u27 (u27.alloc (.cells #[.int .i64 0, .int .i64 0, .int .i64 0, .int .i64 0] 131)) := (Below.refl _ _).alloc (Nat.le_refl _) _
          have hn30 : (u27.alloc (.cells #[.int .i64 0, .int .i64 0, .int .i64 0, .int .i64 0] 131)).heap[u27.heap.size]? = some (.cells #[.int .i64 0, .int .i64 0, .int .i64 0, .int .i64 0] 131 (0, 0)) := heap_alloc_new _ _
          have hz30 := hU27.size
          have hg9_30 := (hq30.block _ (Array.getElem?_eq_some_iff.1 hg9_27).1).trans hg9_27
          have hne : u27.heap.size ≠ wd.heap.size := by have := (Array.getElem?_eq_some_iff.1 hg9_27).1; omega
          refine hK.out _ _ hU30 (fun hHeld => ?_)
          clear hK K
          try simp only [Act.put, List.getElem_toArray, List.getElem_cons_zero, List.getElem_cons_succ, List.setIfInBounds_toArray, List.set_cons_zero, List.set_cons_succ]
          generalize u27.alloc (.cells #[.int .i64 0, .int .i64 0, .int .i64 0, .int .i64 0] 131) = u30 at hU30 hq30 hn30 hHeld hg9_30 ⊢
          refine wpAnyH_ready (rs := [3]) (by kernel_rfl) (by simp) ?_
          refine AllReadyH.cons rfl (fun K hK => ?_) AllReadyH.nil
          go_simp
          refine (four_any e _).mono ?_
          rintro x u31 ⟨rfl, hq31⟩
          have hU31 : Below w3.heap.size w3 u31 := bstep0 hU30 hq31
          dsimp only
          refine hK.out _ _ hU31 (fun hHeld => ?_)
          clear hK K
          try simp only [Act.put, List.getElem_toArray, List.getElem_cons_zero, List.getElem_cons_succ, List.setIfInBounds_toArray, List.set_cons_zero, List.set_cons_succ]
          have hg8_31 := (hq31.block _ (Array.getElem?_eq_some_iff.1 hn30).1).trans hn30
          have hg9_31 := (hq31.block _ (Array.getElem?_eq_some_iff.1 hg9_30).1).trans hg9_30
          have s60 := cell_of_row u31 _ 0 _ _ _ hg8_31
          have s61 := cell_of_row u31 _ 1 _ _ _ hg8_31
          have s62 := cell_of_row u31 _ 2 _ _ _ hg8_31
          have s63 := cell_of_row u31 _ 3 _ _ _ hg8_31
          have t60 := free_of_row hg8_31 0
          have t61 := free_of_row hg8_31 1
          have t62 := free_of_row hg8_31 2
          have t63 := free_of_row hg8_31 3
          obtain ⟨r6, a6⟩ := set4 hg8_31 (.int .i64 p.th) (.int .i64 p.obj) (.int .i64 p.a) (.int .i64 p.b)
          have l6 := (hU31.trans (a6.below (B := w3.heap.size) hU31.size fun b hb => by subst hb; exact hz30))
          have m6 := (a6.block _ (Array.getElem?_eq_some_iff.1 hg9_31).1 hne.symm).trans hg9_31
          refine wpAnyH_ready (rs := [6]) (by kernel_rfl) (by simp) ?_
          refine AllReadyH.cons rfl (fun K hK => ?_) AllReadyH.nil
          go_simp
          refine hK.out _ _ l6 (fun hHeld => ?_)
          clear hK K s60 s61 s62 s63 t60 t61 t62 t63
          try simp only [Act.put, List.getElem_toArray, List.getElem_cons_zero, List.getElem_cons_succ, List.setIfInBounds_toArray, List.set_cons_zero, List.set_cons_succ]
          generalize ((((u31.setCell ⟨u27.heap.size, 0, none⟩ (.int .i64 p.th)).setCell ⟨u27.heap.size, 1, none⟩ (.int .i64 p.obj)).setCell ⟨u27.heap.size, 2, none⟩ (.int .i64 p.a)).setCell ⟨u27.heap.size, 3, none⟩ (.int .i64 p.b)) = v6 at r6 a6 l6 m6 hHeld ⊢
          have s70 := cell_of_row v6 _ 0 _ _ _ m6
          have s71 := cell_of_row v6 _ 1 _ _ _ m6
          have s72 := cell_of_row v6 _ 2 _ _ _ m6
          have s73 := cell_of_row v6 _ 3 _ _ _ m6
          have t70 := free_of_row m6 0
          have t71 := free_of_row m6 1
          have t72 := free_of_row m6 2
          have t73 := free_of_row m6 3
          obtain ⟨r7, a7⟩ := set4 m6 (.int .i64 e.th) (.int .i64 e.obj) (.int .i64 e.a) (.int .i64 e.b)
          have l7 := (l6.trans (a7.below (B := w3.heap.size) l6.size fun b hb => by subst hb; exact hz26))
          have m7 := (a7.block _ (Array.getElem?_eq_some_iff.1 r6).1 hne).trans r6
          refine wpAnyH_ready (rs := [7]) (by kernel_rfl) (by simp) ?_
          refine AllReadyH.cons rfl (fun K hK => ?_) AllReadyH.nil
          go_simp
          refine hK.out _ _ l7 (fun hHeld => ?_)
          clear hK K s70 s71 s72 s73 t70 t71 t72 t73
          try simp only [Act.put, List.getElem_toArray, List.getElem_cons_zero, List.getElem_cons_succ, List.setIfInBounds_toArray, List.set_cons_zero, List.set_cons_succ]
          generalize ((((v6.setCell ⟨wd.heap.size, 0, none⟩ (.int .i64 e.th)).setCell ⟨wd.heap.size, 1, none⟩ (.int .i64 e.obj)).setCell ⟨wd.heap.size, 2, none⟩ (.int .i64 e.a)).setCell ⟨wd.heap.size, 3, none⟩ (.int .i64 e.b)) = v7 at r7 a7 l7 m7 hHeld ⊢
          refine wpAnyH_done (by kernel_rfl) ?_ _
          go_wp2_with fail
          go_meet
          exact ⟨_, _, rfl, rfl, m7, r7, l7⟩
      · skip
        go_simp
        have hU32 : Below w3.heap.size w3 (u26.alloc (.cells #[.int .i64 0, .int .i64 0, .int .i64 0, .int .i64 0] 131)) := hU26.alloc (hU26.size) _
        have hq32 : Below u26.heap.size u26 (u26.alloc (.cells #[.int .i64 0, .int .i64 0, .int .i64 0, .int .i64 0] 131)) := (Below.refl _ _).alloc (Nat.le_refl _) _
        have hn32 : (u26.alloc (.cells #[.int .i64 0, .int .i64 0, .int .i64 0, .int .i64 0] 131)).heap[u26.heap.size]? = some (.cells #[.int .i64 0, .int .i64 0, .int .i64 0, .int .i64 0] 131 (0, 0)) := heap_alloc_new _ _
        have hz32 := hU26.size
        have hg9_32 := (hq32.block _ (Array.getElem?_eq_some_iff.1 hn26).1).trans hn26
        have hne : u26.heap.size ≠ wd.heap.size := by have := (Array.getElem?_eq_some_iff.1 hn26).1; omega
        refine hK.out _ _ hU32 (fun hHeld => ?_)
        clear hK K
        try simp only [Act.put, List.getElem_toArray, List.getElem_cons_zero, List.getElem_cons_succ, List.setIfInBounds_toArray, List.set_cons_zero, List.set_cons_succ]
        generalize u26.alloc (.cells #[.int .i64 0, .int .i64 0, .int .i64 0, .int .i64 0] 131) = u32 at hU32 hq32 hn32 hHeld hg9_32 ⊢
        refine wpAnyH_ready (rs := [1]) (by kernel_rfl) (by simp) ?_
        refine AllReadyH.cons rfl (fun K hK => ?_) AllReadyH.nil
        go_simp
        refine (four_any p _).mono ?_
        rintro x u33 ⟨rfl, hq33⟩
        have hU33 : Below w3.heap.size w3 u33 := bstep0 hU32 hq33
        dsimp only
        refine hK.out _ _ hU33 (fun hHeld => ?_)
        clear hK K
        try simp only [Act.put, List.getElem_toArray, List.getElem_cons_zero, List.getElem_cons_succ, List.setIfInBounds_toArray, List.set_cons_zero, List.set_cons_succ]
        have hg8_33 := (hq33.block _ (Array.getElem?_eq_some_iff.1 hn32).1).trans hn32
        have hg9_33 := (hq33.block _ (Array.getElem?_eq_some_iff.1 hg9_32).1).trans hg9_32
        refine wpAnyH_ready (rs := [3]) (by kernel_rfl) (by simp) ?_
        refine AllReadyH.cons rfl (fun K hK => ?_) AllReadyH.nil
        go_simp
        refine (four_any e _).mono ?_
        rintro x u34 ⟨rfl, hq34⟩
        have hU34 : Below w3.heap.size w3 u34 := bstep0 hU33 hq34
        dsimp only
        refine hK.out _ _ hU34 (fun hHeld => ?_)
        clear hK K
        try simp only [Act.put, List.getElem_toArray, List.getElem_cons_zero, List.getElem_cons_succ, List.setIfInBounds_toArray, List.set_cons_zero, List.set_cons_succ]
        have hg8_34 := (hq34.block _ (Array.getElem?_eq_some_iff.1 hg8_33).1).trans hg8_33
        have hg9_34 := (hq34.block _ (Array.getElem?_eq_some_iff.1 hg9_33).1).trans hg9_33
        have s60 := cell_of_row u34 _ 0 _ _ _ hg8_34
        have s61 := cell_of_row u34 _ 1 _ _ _ hg8_34
        have s62 := cell_of_row u34 _ 2 _ _ _ hg8_34
        have s63 := cell_of_row u34 _ 3 _ _ _ hg8_34
        have t60 := free_of_row hg8_34 0
        have t61 := free_of_row hg8_34 1
        have t62 := free_of_row hg8_34 2
        have t63 := free_of_row hg8_34 3
        obtain ⟨r6, a6⟩ := set4 hg8_34 (.int .i64 p.th) (.int .i64 p.obj) (.int .i64 p.a) (.int .i64 p.b)
        have l6 := (hU34.trans (a6.below (B := w3.heap.size) hU34.size fun b hb => by subst hb; exact hz32))
        have m6 := (a6.block _ (Array.getElem?_eq_some_iff.1 hg9_34).1 hne.symm).trans hg9_34
        refine wpAnyH_ready (rs := [6]) (by kernel_rfl) (by simp) ?_
        refine AllReadyH.cons rfl (fun K hK => ?_) AllReadyH.nil
        go_simp
        refine hK.out _ _ l6 (fun hHeld => ?_)
        clear hK K s60 s61 s62 s63 t60 t61 t62 t63
        try simp only [Act.put, List.getElem_toArray, List.getElem_cons_zero, List.getElem_cons_succ, List.setIfInBounds_toArray, List.set_cons_zero, List.set_cons_succ]
        generalize ((((u34.setCell ⟨u26.heap.size, 0, none⟩ (.int .i64 p.th)).setCell ⟨u26.heap.size, 1, none⟩ (.int .i64 p.obj)).setCell ⟨u26.heap.size, 2, none⟩ (.int .i64 p.a)).setCell ⟨u26.heap.size, 3, none⟩ (.int .i64 p.b)) = v6 at r6 a6 l6 m6 hHeld ⊢
        have s70 := cell_of_row v6 _ 0 _ _ _ m6
        have s71 := cell_of_row v6 _ 1 _ _ _ m6
        have s72 := cell_of_row v6 _ 2 _ _ _ m6
        have s73 := cell_of_row v6 _ 3 _ _ _ m6
        have t70 := free_of_row m6 0
        have t71 := free_of_row m6 1
        have t72 := free_of_row m6 2
        have t73 := free_of_row m6 3
        obtain ⟨r7, a7⟩ := set4 m6 (.int .i64 e.th) (.int .i64 e.obj) (.int .i64 e.a) (.int .i64 e.b)
        have l7 := (l6.trans (a7.below (B := w3.heap.size) l6.size fun b hb => by subst hb; exact hz26))
        have m7 := (a7.block _ (Array.getElem?_eq_some_iff.1 r6).1 hne).trans r6
        refine wpAnyH_ready (rs := [7]) (by kernel_rfl) (by simp) ?_
        refine AllReadyH.cons rfl (fun K hK => ?_) AllReadyH.nil
        go_simp
        refine hK.out _ _ l7 (fun hHeld => ?_)
        clear hK K s70 s71 s72 s73 t70 t71 t72 t73
        try simp only [Act.put, List.getElem_toArray, List.getElem_cons_zero, List.getElem_cons_succ, List.setIfInBounds_toArray, List.set_cons_zero, List.set_cons_succ]
        generalize ((((v6.setCell ⟨wd.heap.size, 0, none⟩ (.int .i64 e.th)).setCell ⟨wd.heap.size, 1, none⟩ (.int .i64 e.obj)).setCell ⟨wd.heap.size, 2, none⟩ (.int .i64 e.a)).setCell ⟨wd.heap.size, 3, none⟩ (.int .i64 e.b)) = v7 at r7 a7 l7 m7 hHeld ⊢
        refine wpAnyH_done (by kernel_rfl) ?_ _
        go_wp2_with fail
        go_meet
        exact ⟨_, _, rfl, rfl, m7, r7, l7⟩

  case rest =>
  obtain ⟨g8, g9, rfl, rfl, hg8, hg9, hbc⟩ := hcut
  have hBc := hBw3.trans (hbc.mono hBw3.size)
  have hI3c := hI3.below hbc
  clear kp0 kp1 kp2 kp3 kp4 ke0 ke1 ke2 ke3 ke4 hx3 hy3 hI3 hbc hBw3
  have HG8 := Lib.hid hg8
  have HG9 := Lib.hid hg9
  have HBC := Lib.hid hBc
  have HI3 := Lib.hid hI3c
  have hn3 := hI3c.len
  rw [List.length_append] at hn3
  have hn3' : n3 = n + 1 := by rw [← hn3, hlen]; rfl
  have HN3 := Lib.hid hn3'
  clear hg8 hg9 hBc hI3c hn3 hn3'
  go_wp2_with fail
  go_loopw [7, 10] (fun all q wr => ∃ (i : Nat) (A1 : Option Addr) (m1 c1 : Nat), q = .int .i64 (i : Int) ∧ i ≤ 4 ∧ all = .slice A1 m1 c1 ∧ IsB wr A1 m1 c1 ((l ++ [e.op.toUInt8]) ++ encTo p e i) ∧ Below wc.heap.size wc wr)
    (fun _ q _ => 4 - (intOf q).toNat)
  case atStart => exact ⟨0, A3, n3, c3, rfl, by omega, rfl, by show IsB _ _ _ _ (_ ++ []); rw [List.append_nil]; exact HI3.out, Below.refl _ _⟩
  case round =>
    obtain ⟨i, A1, m1, c1, rfl, hi4, rfl, hI1, hBr⟩ := hrel
    have hsz := hBr.size
    have hx8 := (hBr.block _ (Array.getElem?_eq_some_iff.1 HG8.out).1).trans HG8.out
    have hx9 := (hBr.block _ (Array.getElem?_eq_some_iff.1 HG9.out).1).trans HG9.out
    have hm1 := hI1.len
    have hmost := encTo_most p e i
    have hm2 : m1 ≤ 2000000 := by
      rw [← hm1, List.length_append, List.length_append, hlen]
      show n + 1 + (encTo p e i).length ≤ _
      omega
    have HI1 := Lib.hid hI1
    have HBr := Lib.hid hBr
    clear hI1 hBr hm1 hmost
    by_cases hi : i < 4
    · obtain rfl | rfl | rfl | rfl : i = 0 ∨ i = 1 ∨ i = 2 ∨ i = 3 := by omega
      · -- the number th
        have c8 : wr.cell? ⟨g8, 0, none⟩ = some (.int .i64 p.th) := cell_of_row wr _ 0 _ _ _ hx8
        have c9 : wr.cell? ⟨g9, 0, none⟩ = some (.int .i64 e.th) := cell_of_row wr _ 0 _ _ _ hx9
        obtain ⟨D, hD, hDd⟩ : ∃ D, IntKind.i64.wrap (IntKind.u64.wrap (IntKind.u64.wrap e.th - IntKind.u64.wrap p.th)) = D ∧ Hid (D = dif p.th e.th) := ⟨_, rfl, dif_u64 _ _⟩
        have hD64 : In64 D := by rw [hDd.out]; exact dif_in _ _
        clear hx8 hx9
        go_wp2_with fail
        refine wp_region_held_drew (S := fun w' => w'.cell? ⟨g8, 0, none⟩ = some (.int .i64 p.th) ∧ w'.cell? ⟨g9, 0, none⟩ = some (.int .i64 e.th)) (by kernel_rfl) ⟨c8, c9⟩ (fun hHeld => ?_)
        refine wpAnyH_take (i := 0) (v := ?_) rfl (by kernel_rfl) (by kernel_rfl) (by kernel_rfl) (fun _ _ _ h => h) (Or.inl ⟨by rfl, ?_⟩) hHeld ?_
        rotate_left
        · (intro w hSw; obtain ⟨hs0, hs1⟩ := hSw; go_simp <;> rfl)
        simp only [Act.put, List.getElem_toArray, List.getElem_cons_zero, List.getElem_cons_succ, List.setIfInBounds_toArray, List.set_cons_zero, List.set_cons_succ]
        refine wpAnyH_take (i := 1) (v := ?_) rfl (by kernel_rfl) (by kernel_rfl) (by kernel_rfl) (fun _ _ _ h => h) (Or.inl ⟨by rfl, ?_⟩) hHeld ?_
        rotate_left
        · (intro w hSw; obtain ⟨hs0, hs1⟩ := hSw; go_simp <;> rfl)
        simp only [Act.put, List.getElem_toArray, List.getElem_cons_zero, List.getElem_cons_succ, List.setIfInBounds_toArray, List.set_cons_zero, List.set_cons_succ]
        refine wpAnyH_take (i := 2) (v := ?_) rfl (by kernel_rfl) (by kernel_rfl) (by kernel_rfl) (fun _ _ _ h => h) (Or.inl ⟨by rfl, ?_⟩) hHeld ?_
        rotate_left
        · (intro w hSw; obtain ⟨hs0, hs1⟩ := hSw; go_simp <;> rfl)
        simp only [Act.put, List.getElem_toArray, List.getElem_cons_zero, List.getElem_cons_succ, List.setIfInBounds_toArray, List.set_cons_zero, List.set_cons_succ]
        refine wpAnyH_take (i := 3) (v := ?_) rfl (by kernel_rfl) (by kernel_rfl) (by kernel_rfl) (fun _ _ _ h => h) (Or.inl ⟨by rfl, ?_⟩) hHeld ?_
        rotate_left
        · (intro w hSw; obtain ⟨hs0, hs1⟩ := hSw; go_simp <;> rfl)
        simp only [Act.put, List.getElem_toArray, List.getElem_cons_zero, List.getElem_cons_succ, List.setIfInBounds_toArray, List.set_cons_zero, List.set_cons_succ]
        refine wpAnyH_take (i := 4) (v := ?_) rfl (by kernel_rfl) (by kernel_rfl) (by kernel_rfl) (fun _ _ _ h => h) (Or.inl ⟨by rfl, ?_⟩) hHeld ?_
        rotate_left
        · (intro w hSw; obtain ⟨hs0, hs1⟩ := hSw; go_simp <;> rfl)
        simp only [Act.put, List.getElem_toArray, List.getElem_cons_zero, List.getElem_cons_succ, List.setIfInBounds_toArray, List.set_cons_zero, List.set_cons_succ]
        refine wpAnyH_take (i := 5) (v := ?_) rfl (by kernel_rfl) (by kernel_rfl) (by kernel_rfl) (fun _ _ _ h => h) (Or.inl ⟨by rfl, ?_⟩) hHeld ?_
        rotate_left
        · (intro w hSw; obtain ⟨hs0, hs1⟩ := hSw; go_simp <;> rfl)
        simp only [Act.put, List.getElem_toArray, List.getElem_cons_zero, List.getElem_cons_succ, List.setIfInBounds_toArray, List.set_cons_zero, List.set_cons_succ]
        refine wpAnyH_take (i := 6) (v := ?_) rfl (by kernel_rfl) (by kernel_rfl) (by kernel_rfl) (fun _ _ _ h => h) (Or.inl ⟨by rfl, ?_⟩) hHeld ?_
        rotate_left
        · (intro w hSw; obtain ⟨hs0, hs1⟩ := hSw; go_simp <;> rfl)
        simp only [Act.put, List.getElem_toArray, List.getElem_cons_zero, List.getElem_cons_succ, List.setIfInBounds_toArray, List.set_cons_zero, List.set_cons_succ]
        refine wpAnyH_take (i := 7) (v := ?_) rfl (by kernel_rfl) (by kernel_rfl) (by kernel_rfl) (fun _ _ _ h => h) (Or.inl ⟨by rfl, ?_⟩) hHeld ?_
        rotate_left
        · (intro w hSw; obtain ⟨hs0, hs1⟩ := hSw; go_simp <;> rfl)
        simp only [Act.put, List.getElem_toArray, List.getElem_cons_zero, List.getElem_cons_succ, List.setIfInBounds_toArray, List.set_cons_zero, List.set_cons_succ]
        refine wpAnyH_take (i := 8) (v := ?_) rfl (by kernel_rfl) (by kernel_rfl) (by kernel_rfl) (fun _ _ _ h => h) (Or.inl ⟨by rfl, ?_⟩) hHeld ?_
        rotate_left
        · (intro w hSw; obtain ⟨hs0, hs1⟩ := hSw; go_simp <;> rfl)
        simp only [Act.put, List.getElem_toArray, List.getElem_cons_zero, List.getElem_cons_succ, List.setIfInBounds_toArray, List.set_cons_zero, List.set_cons_succ]
        refine wpAnyH_take (i := 9) (v := ?_) rfl (by kernel_rfl) (by kernel_rfl) (by kernel_rfl) (fun _ _ _ h => h) (Or.inl ⟨by rfl, ?_⟩) hHeld ?_
        rotate_left
        · (intro w hSw; obtain ⟨hs0, hs1⟩ := hSw; go_simp <;> rfl)
        simp only [Act.put, List.getElem_toArray, List.getElem_cons_zero, List.getElem_cons_succ, List.setIfInBounds_toArray, List.set_cons_zero, List.set_cons_succ]
        refine wpAnyH_take (i := 10) (v := ?_) rfl (by kernel_rfl) (by kernel_rfl) (by kernel_rfl) (fun _ _ _ h => h) (Or.inl ⟨by rfl, ?_⟩) hHeld ?_
        rotate_left
        · (intro w hSw; obtain ⟨hs0, hs1⟩ := hSw; go_simp <;> rfl)
        simp only [Act.put, List.getElem_toArray, List.getElem_cons_zero, List.getElem_cons_succ, List.setIfInBounds_toArray, List.set_cons_zero, List.set_cons_succ]
        refine wpAnyH_ready (rs := [11]) (by kernel_rfl) (by simp) ?_
        refine AllReadyH.cons rfl (fun K hK => ?_) AllReadyH.nil
        go_simp
        refine (refInt_any A1 m1 c1 D _ _ (IsB.drew HI1.out) (by omega) hD64.1 hD64.2).mono ?_
        rintro x w2 ⟨B, m, d, rfl, hI2, hb2⟩
        have hb2 : Below wr.heap.size wr w2 := bstep0 ((Below.refl _ wr).drew) hb2
        dsimp only
        refine hK.out _ _ ⟨cell_below hb2 _ _ c8, cell_below hb2 _ _ c9⟩ (fun hHeld => ?_)
        clear hK K
        try simp only [Act.put, List.getElem_toArray, List.getElem_cons_zero, List.getElem_cons_succ, List.setIfInBounds_toArray, List.set_cons_zero, List.set_cons_succ]
        refine wpAnyH_ready (rs := [12]) (by kernel_rfl) (by simp) ?_
        refine AllReadyH.cons rfl (fun K hK => ?_) AllReadyH.nil
        go_simp
        refine hK.out _ _ ⟨cell_below hb2 _ _ c8, cell_below hb2 _ _ c9⟩ (fun hHeld => ?_)
        clear hK K
        try simp only [Act.put, List.getElem_toArray, List.getElem_cons_zero, List.getElem_cons_succ, List.setIfInBounds_toArray, List.set_cons_zero, List.set_cons_succ]
        refine wpAnyH_done (by kernel_rfl) ?_ _
        have hB2 := HBr.out.trans (hb2.mono hsz)
        have hI3 : Hid (IsB w2 B m d ((l ++ [e.op.toUInt8]) ++ encTo p e 1)) := by
          show IsB w2 B m d ((l ++ [e.op.toUInt8]) ++ (encTo p e 0 ++ svar (dif p.th e.th)))
          rw [← hDd.out, ← List.append_assoc (l ++ [e.op.toUInt8])]
          exact hI2
        have HB2 := Lib.hid hB2
        clear c8 c9 hI2 hb2 hB2 hHeld hD
        go_wp2_with fail
        go_roundw
        case rel => exact ⟨1, B, m, d, rfl, by omega, rfl, hI3.out, HB2.out⟩
        case measure => simp [intOf]
      · -- the number obj
        have c8 : wr.cell? ⟨g8, 1, none⟩ = some (.int .i64 p.obj) := cell_of_row wr _ 1 _ _ _ hx8
        have c9 : wr.cell? ⟨g9, 1, none⟩ = some (.int .i64 e.obj) := cell_of_row wr _ 1 _ _ _ hx9
        obtain ⟨D, hD, hDd⟩ : ∃ D, IntKind.i64.wrap (IntKind.u64.wrap (IntKind.u64.wrap e.obj - IntKind.u64.wrap p.obj)) = D ∧ Hid (D = dif p.obj e.obj) := ⟨_, rfl, dif_u64 _ _⟩
        have hD64 : In64 D := by rw [hDd.out]; exact dif_in _ _
        clear hx8 hx9
        go_wp2_with fail
        refine wp_region_held_drew (S := fun w' => w'.cell? ⟨g8, 1, none⟩ = some (.int .i64 p.obj) ∧ w'.cell? ⟨g9, 1, none⟩ = some (.int .i64 e.obj)) (by kernel_rfl) ⟨c8, c9⟩ (fun hHeld => ?_)
        refine wpAnyH_take (i := 0) (v := ?_) rfl (by kernel_rfl) (by kernel_rfl) (by kernel_rfl) (fun _ _ _ h => h) (Or.inl ⟨by rfl, ?_⟩) hHeld ?_
        rotate_left
        · (intro w hSw; obtain ⟨hs0, hs1⟩ := hSw; go_simp <;> rfl)
        simp only [Act.put, List.getElem_toArray, List.getElem_cons_zero, List.getElem_cons_succ, List.setIfInBounds_toArray, List.set_cons_zero, List.set_cons_succ]
        refine wpAnyH_take (i := 1) (v := ?_) rfl (by kernel_rfl) (by kernel_rfl) (by kernel_rfl) (fun _ _ _ h => h) (Or.inl ⟨by rfl, ?_⟩) hHeld ?_
        rotate_left
        · (intro w hSw; obtain ⟨hs0, hs1⟩ := hSw; go_simp <;> rfl)
        simp only [Act.put, List.getElem_toArray, List.getElem_cons_zero, List.getElem_cons_succ, List.setIfInBounds_toArray, List.set_cons_zero, List.set_cons_succ]
        refine wpAnyH_take (i := 2) (v := ?_) rfl (by kernel_rfl) (by kernel_rfl) (by kernel_rfl) (fun _ _ _ h => h) (Or.inl ⟨by rfl, ?_⟩) hHeld ?_
        rotate_left
        · (intro w hSw; obtain ⟨hs0, hs1⟩ := hSw; go_simp <;> rfl)
        simp only [Act.put, List.getElem_toArray, List.getElem_cons_zero, List.getElem_cons_succ, List.setIfInBounds_toArray, List.set_cons_zero, List.set_cons_succ]
        refine wpAnyH_take (i := 3) (v := ?_) rfl (by kernel_rfl) (by kernel_rfl) (by kernel_rfl) (fun _ _ _ h => h) (Or.inl ⟨by rfl, ?_⟩) hHeld ?_
        rotate_left
        · (intro w hSw; obtain ⟨hs0, hs1⟩ := hSw; go_simp <;> rfl)
        simp only [Act.put, List.getElem_toArray, List.getElem_cons_zero, List.getElem_cons_succ, List.setIfInBounds_toArray, List.set_cons_zero, List.set_cons_succ]
        refine wpAnyH_take (i := 4) (v := ?_) rfl (by kernel_rfl) (by kernel_rfl) (by kernel_rfl) (fun _ _ _ h => h) (Or.inl ⟨by rfl, ?_⟩) hHeld ?_
        rotate_left
        · (intro w hSw; obtain ⟨hs0, hs1⟩ := hSw; go_simp <;> rfl)
        simp only [Act.put, List.getElem_toArray, List.getElem_cons_zero, List.getElem_cons_succ, List.setIfInBounds_toArray, List.set_cons_zero, List.set_cons_succ]
        refine wpAnyH_take (i := 5) (v := ?_) rfl (by kernel_rfl) (by kernel_rfl) (by kernel_rfl) (fun _ _ _ h => h) (Or.inl ⟨by rfl, ?_⟩) hHeld ?_
        rotate_left
        · (intro w hSw; obtain ⟨hs0, hs1⟩ := hSw; go_simp <;> rfl)
        simp only [Act.put, List.getElem_toArray, List.getElem_cons_zero, List.getElem_cons_succ, List.setIfInBounds_toArray, List.set_cons_zero, List.set_cons_succ]
        refine wpAnyH_take (i := 6) (v := ?_) rfl (by kernel_rfl) (by kernel_rfl) (by kernel_rfl) (fun _ _ _ h => h) (Or.inl ⟨by rfl, ?_⟩) hHeld ?_
        rotate_left
        · (intro w hSw; obtain ⟨hs0, hs1⟩ := hSw; go_simp <;> rfl)
        simp only [Act.put, List.getElem_toArray, List.getElem_cons_zero, List.getElem_cons_succ, List.setIfInBounds_toArray, List.set_cons_zero, List.set_cons_succ]
        refine wpAnyH_take (i := 7) (v := ?_) rfl (by kernel_rfl) (by kernel_rfl) (by kernel_rfl) (fun _ _ _ h => h) (Or.inl ⟨by rfl, ?_⟩) hHeld ?_
        rotate_left
        · (intro w hSw; obtain ⟨hs0, hs1⟩ := hSw; go_simp <;> rfl)
        simp only [Act.put, List.getElem_toArray, List.getElem_cons_zero, List.getElem_cons_succ, List.setIfInBounds_toArray, List.set_cons_zero, List.set_cons_succ]
        refine wpAnyH_take (i := 8) (v := ?_) rfl (by kernel_rfl) (by kernel_rfl) (by kernel_rfl) (fun _ _ _ h => h) (Or.inl ⟨by rfl, ?_⟩) hHeld ?_
        rotate_left
        · (intro w hSw; obtain ⟨hs0, hs1⟩ := hSw; go_simp <;> rfl)
        simp only [Act.put, List.getElem_toArray, List.getElem_cons_zero, List.getElem_cons_succ, List.setIfInBounds_toArray, List.set_cons_zero, List.set_cons_succ]
        refine wpAnyH_take (i := 9) (v := ?_) rfl (by kernel_rfl) (by kernel_rfl) (by kernel_rfl) (fun _ _ _ h => h) (Or.inl ⟨by rfl, ?_⟩) hHeld ?_
        rotate_left
        · (intro w hSw; obtain ⟨hs0, hs1⟩ := hSw; go_simp <;> rfl)
        simp only [Act.put, List.getElem_toArray, List.getElem_cons_zero, List.getElem_cons_succ, List.setIfInBounds_toArray, List.set_cons_zero, List.set_cons_succ]
        refine wpAnyH_take (i := 10) (v := ?_) rfl (by kernel_rfl) (by kernel_rfl) (by kernel_rfl) (fun _ _ _ h => h) (Or.inl ⟨by rfl, ?_⟩) hHeld ?_
        rotate_left
        · (intro w hSw; obtain ⟨hs0, hs1⟩ := hSw; go_simp <;> rfl)
        simp only [Act.put, List.getElem_toArray, List.getElem_cons_zero, List.getElem_cons_succ, List.setIfInBounds_toArray, List.set_cons_zero, List.set_cons_succ]
        refine wpAnyH_ready (rs := [11]) (by kernel_rfl) (by simp) ?_
        refine AllReadyH.cons rfl (fun K hK => ?_) AllReadyH.nil
        go_simp
        refine (refInt_any A1 m1 c1 D _ _ (IsB.drew HI1.out) (by omega) hD64.1 hD64.2).mono ?_
        rintro x w2 ⟨B, m, d, rfl, hI2, hb2⟩
        have hb2 : Below wr.heap.size wr w2 := bstep0 ((Below.refl _ wr).drew) hb2
        dsimp only
        refine hK.out _ _ ⟨cell_below hb2 _ _ c8, cell_below hb2 _ _ c9⟩ (fun hHeld => ?_)
        clear hK K
        try simp only [Act.put, List.getElem_toArray, List.getElem_cons_zero, List.getElem_cons_succ, List.setIfInBounds_toArray, List.set_cons_zero, List.set_cons_succ]
        refine wpAnyH_ready (rs := [12]) (by kernel_rfl) (by simp) ?_
        refine AllReadyH.cons rfl (fun K hK => ?_) AllReadyH.nil
        go_simp
        refine hK.out _ _ ⟨cell_below hb2 _ _ c8, cell_below hb2 _ _ c9⟩ (fun hHeld => ?_)
        clear hK K
        try simp only [Act.put, List.getElem_toArray, List.getElem_cons_zero, List.getElem_cons_succ, List.setIfInBounds_toArray, List.set_cons_zero, List.set_cons_succ]
        refine wpAnyH_done (by kernel_rfl) ?_ _
        have hB2 := HBr.out.trans (hb2.mono hsz)
        have hI3 : Hid (IsB w2 B m d ((l ++ [e.op.toUInt8]) ++ encTo p e 2)) := by
          show IsB w2 B m d ((l ++ [e.op.toUInt8]) ++ (encTo p e 1 ++ svar (dif p.obj e.obj)))
          rw [← hDd.out, ← List.append_assoc (l ++ [e.op.toUInt8])]
          exact hI2
        have HB2 := Lib.hid hB2
        clear c8 c9 hI2 hb2 hB2 hHeld hD
        go_wp2_with fail
        go_roundw
        case rel => exact ⟨2, B, m, d, rfl, by omega, rfl, hI3.out, HB2.out⟩
        case measure => simp [intOf]
      · -- the number a
        have c8 : wr.cell? ⟨g8, 2, none⟩ = some (.int .i64 p.a) := cell_of_row wr _ 2 _ _ _ hx8
        have c9 : wr.cell? ⟨g9, 2, none⟩ = some (.int .i64 e.a) := cell_of_row wr _ 2 _ _ _ hx9
        obtain ⟨D, hD, hDd⟩ : ∃ D, IntKind.i64.wrap (IntKind.u64.wrap (IntKind.u64.wrap e.a - IntKind.u64.wrap p.a)) = D ∧ Hid (D = dif p.a e.a) := ⟨_, rfl, dif_u64 _ _⟩
        have hD64 : In64 D := by rw [hDd.out]; exact dif_in _ _
        clear hx8 hx9
        go_wp2_with fail
        refine wp_region_held_drew (S := fun w' => w'.cell? ⟨g8, 2, none⟩ = some (.int .i64 p.a) ∧ w'.cell? ⟨g9, 2, none⟩ = some (.int .i64 e.a)) (by kernel_rfl) ⟨c8, c9⟩ (fun hHeld => ?_)
        refine wpAnyH_take (i := 0) (v := ?_) rfl (by kernel_rfl) (by kernel_rfl) (by kernel_rfl) (fun _ _ _ h => h) (Or.inl ⟨by rfl, ?_⟩) hHeld ?_
        rotate_left
        · (intro w hSw; obtain ⟨hs0, hs1⟩ := hSw; go_simp <;> rfl)
        simp only [Act.put, List.getElem_toArray, List.getElem_cons_zero, List.getElem_cons_succ, List.setIfInBounds_toArray, List.set_cons_zero, List.set_cons_succ]
        refine wpAnyH_take (i := 1) (v := ?_) rfl (by kernel_rfl) (by kernel_rfl) (by kernel_rfl) (fun _ _ _ h => h) (Or.inl ⟨by rfl, ?_⟩) hHeld ?_
        rotate_left
        · (intro w hSw; obtain ⟨hs0, hs1⟩ := hSw; go_simp <;> rfl)
        simp only [Act.put, List.getElem_toArray, List.getElem_cons_zero, List.getElem_cons_succ, List.setIfInBounds_toArray, List.set_cons_zero, List.set_cons_succ]
        refine wpAnyH_take (i := 2) (v := ?_) rfl (by kernel_rfl) (by kernel_rfl) (by kernel_rfl) (fun _ _ _ h => h) (Or.inl ⟨by rfl, ?_⟩) hHeld ?_
        rotate_left
        · (intro w hSw; obtain ⟨hs0, hs1⟩ := hSw; go_simp <;> rfl)
        simp only [Act.put, List.getElem_toArray, List.getElem_cons_zero, List.getElem_cons_succ, List.setIfInBounds_toArray, List.set_cons_zero, List.set_cons_succ]
        refine wpAnyH_take (i := 3) (v := ?_) rfl (by kernel_rfl) (by kernel_rfl) (by kernel_rfl) (fun _ _ _ h => h) (Or.inl ⟨by rfl, ?_⟩) hHeld ?_
        rotate_left
        · (intro w hSw; obtain ⟨hs0, hs1⟩ := hSw; go_simp <;> rfl)
        simp only [Act.put, List.getElem_toArray, List.getElem_cons_zero, List.getElem_cons_succ, List.setIfInBounds_toArray, List.set_cons_zero, List.set_cons_succ]
        refine wpAnyH_take (i := 4) (v := ?_) rfl (by kernel_rfl) (by kernel_rfl) (by kernel_rfl) (fun _ _ _ h => h) (Or.inl ⟨by rfl, ?_⟩) hHeld ?_
        rotate_left
        · (intro w hSw; obtain ⟨hs0, hs1⟩ := hSw; go_simp <;> rfl)
        simp only [Act.put, List.getElem_toArray, List.getElem_cons_zero, List.getElem_cons_succ, List.setIfInBounds_toArray, List.set_cons_zero, List.set_cons_succ]
        refine wpAnyH_take (i := 5) (v := ?_) rfl (by kernel_rfl) (by kernel_rfl) (by kernel_rfl) (fun _ _ _ h => h) (Or.inl ⟨by rfl, ?_⟩) hHeld ?_
        rotate_left
        · (intro w hSw; obtain ⟨hs0, hs1⟩ := hSw; go_simp <;> rfl)
        simp only [Act.put, List.getElem_toArray, List.getElem_cons_zero, List.getElem_cons_succ, List.setIfInBounds_toArray, List.set_cons_zero, List.set_cons_succ]
        refine wpAnyH_take (i := 6) (v := ?_) rfl (by kernel_rfl) (by kernel_rfl) (by kernel_rfl) (fun _ _ _ h => h) (Or.inl ⟨by rfl, ?_⟩) hHeld ?_
        rotate_left
        · (intro w hSw; obtain ⟨hs0, hs1⟩ := hSw; go_simp <;> rfl)
        simp only [Act.put, List.getElem_toArray, List.getElem_cons_zero, List.getElem_cons_succ, List.setIfInBounds_toArray, List.set_cons_zero, List.set_cons_succ]
        refine wpAnyH_take (i := 7) (v := ?_) rfl (by kernel_rfl) (by kernel_rfl) (by kernel_rfl) (fun _ _ _ h => h) (Or.inl ⟨by rfl, ?_⟩) hHeld ?_
        rotate_left
        · (intro w hSw; obtain ⟨hs0, hs1⟩ := hSw; go_simp <;> rfl)
        simp only [Act.put, List.getElem_toArray, List.getElem_cons_zero, List.getElem_cons_succ, List.setIfInBounds_toArray, List.set_cons_zero, List.set_cons_succ]
        refine wpAnyH_take (i := 8) (v := ?_) rfl (by kernel_rfl) (by kernel_rfl) (by kernel_rfl) (fun _ _ _ h => h) (Or.inl ⟨by rfl, ?_⟩) hHeld ?_
        rotate_left
        · (intro w hSw; obtain ⟨hs0, hs1⟩ := hSw; go_simp <;> rfl)
        simp only [Act.put, List.getElem_toArray, List.getElem_cons_zero, List.getElem_cons_succ, List.setIfInBounds_toArray, List.set_cons_zero, List.set_cons_succ]
        refine wpAnyH_take (i := 9) (v := ?_) rfl (by kernel_rfl) (by kernel_rfl) (by kernel_rfl) (fun _ _ _ h => h) (Or.inl ⟨by rfl, ?_⟩) hHeld ?_
        rotate_left
        · (intro w hSw; obtain ⟨hs0, hs1⟩ := hSw; go_simp <;> rfl)
        simp only [Act.put, List.getElem_toArray, List.getElem_cons_zero, List.getElem_cons_succ, List.setIfInBounds_toArray, List.set_cons_zero, List.set_cons_succ]
        refine wpAnyH_take (i := 10) (v := ?_) rfl (by kernel_rfl) (by kernel_rfl) (by kernel_rfl) (fun _ _ _ h => h) (Or.inl ⟨by rfl, ?_⟩) hHeld ?_
        rotate_left
        · (intro w hSw; obtain ⟨hs0, hs1⟩ := hSw; go_simp <;> rfl)
        simp only [Act.put, List.getElem_toArray, List.getElem_cons_zero, List.getElem_cons_succ, List.setIfInBounds_toArray, List.set_cons_zero, List.set_cons_succ]
        refine wpAnyH_ready (rs := [11]) (by kernel_rfl) (by simp) ?_
        refine AllReadyH.cons rfl (fun K hK => ?_) AllReadyH.nil
        go_simp
        refine (refInt_any A1 m1 c1 D _ _ (IsB.drew HI1.out) (by omega) hD64.1 hD64.2).mono ?_
        rintro x w2 ⟨B, m, d, rfl, hI2, hb2⟩
        have hb2 : Below wr.heap.size wr w2 := bstep0 ((Below.refl _ wr).drew) hb2
        dsimp only
        refine hK.out _ _ ⟨cell_below hb2 _ _ c8, cell_below hb2 _ _ c9⟩ (fun hHeld => ?_)
        clear hK K
        try simp only [Act.put, List.getElem_toArray, List.getElem_cons_zero, List.getElem_cons_succ, List.setIfInBounds_toArray, List.set_cons_zero, List.set_cons_succ]
        refine wpAnyH_ready (rs := [12]) (by kernel_rfl) (by simp) ?_
        refine AllReadyH.cons rfl (fun K hK => ?_) AllReadyH.nil
        go_simp
        refine hK.out _ _ ⟨cell_below hb2 _ _ c8, cell_below hb2 _ _ c9⟩ (fun hHeld => ?_)
        clear hK K
        try simp only [Act.put, List.getElem_toArray, List.getElem_cons_zero, List.getElem_cons_succ, List.setIfInBounds_toArray, List.set_cons_zero, List.set_cons_succ]
        refine wpAnyH_done (by kernel_rfl) ?_ _
        have hB2 := HBr.out.trans (hb2.mono hsz)
        have hI3 : Hid (IsB w2 B m d ((l ++ [e.op.toUInt8]) ++ encTo p e 3)) := by
          show IsB w2 B m d ((l ++ [e.op.toUInt8]) ++ (encTo p e 2 ++ svar (dif p.a e.a)))
          rw [← hDd.out, ← List.append_assoc (l ++ [e.op.toUInt8])]
          exact hI2
        have HB2 := Lib.hid hB2
        clear c8 c9 hI2 hb2 hB2 hHeld hD
        go_wp2_with fail
        go_roundw
        case rel => exact ⟨3, B, m, d, rfl, by omega, rfl, hI3.out, HB2.out⟩
        case measure => simp [intOf]
      · -- the number b
        have c8 : wr.cell? ⟨g8, 3, none⟩ = some (.int .i64 p.b) := cell_of_row wr _ 3 _ _ _ hx8
        have c9 : wr.cell? ⟨g9, 3, none⟩ = some (.int .i64 e.b) := cell_of_row wr _ 3 _ _ _ hx9
        obtain ⟨D, hD, hDd⟩ : ∃ D, IntKind.i64.wrap (IntKind.u64.wrap (IntKind.u64.wrap e.b - IntKind.u64.wrap p.b)) = D ∧ Hid (D = dif p.b e.b) := ⟨_, rfl, dif_u64 _ _⟩
        have hD64 : In64 D := by rw [hDd.out]; exact dif_in _ _
        clear hx8 hx9
        go_wp2_with fail
        refine wp_region_held_drew (S := fun w' => w'.cell? ⟨g8, 3, none⟩ = some (.int .i64 p.b) ∧ w'.cell? ⟨g9, 3, none⟩ = some (.int .i64 e.b)) (by kernel_rfl) ⟨c8, c9⟩ (fun hHeld => ?_)
        refine wpAnyH_take (i := 0) (v := ?_) rfl (by kernel_rfl) (by kernel_rfl) (by kernel_rfl) (fun _ _ _ h => h) (Or.inl ⟨by rfl, ?_⟩) hHeld ?_
        rotate_left
        · (intro w hSw; obtain ⟨hs0, hs1⟩ := hSw; go_simp <;> rfl)
        simp only [Act.put, List.getElem_toArray, List.getElem_cons_zero, List.getElem_cons_succ, List.setIfInBounds_toArray, List.set_cons_zero, List.set_cons_succ]
        refine wpAnyH_take (i := 1) (v := ?_) rfl (by kernel_rfl) (by kernel_rfl) (by kernel_rfl) (fun _ _ _ h => h) (Or.inl ⟨by rfl, ?_⟩) hHeld ?_
        rotate_left
        · (intro w hSw; obtain ⟨hs0, hs1⟩ := hSw; go_simp <;> rfl)
        simp only [Act.put, List.getElem_toArray, List.getElem_cons_zero, List.getElem_cons_succ, List.setIfInBounds_toArray, List.set_cons_zero, List.set_cons_succ]
        refine wpAnyH_take (i := 2) (v := ?_) rfl (by kernel_rfl) (by kernel_rfl) (by kernel_rfl) (fun _ _ _ h => h) (Or.inl ⟨by rfl, ?_⟩) hHeld ?_
        rotate_left
        · (intro w hSw; obtain ⟨hs0, hs1⟩ := hSw; go_simp <;> rfl)
        simp only [Act.put, List.getElem_toArray, List.getElem_cons_zero, List.getElem_cons_succ, List.setIfInBounds_toArray, List.set_cons_zero, List.set_cons_succ]
        refine wpAnyH_take (i := 3) (v := ?_) rfl (by kernel_rfl) (by kernel_rfl) (by kernel_rfl) (fun _ _ _ h => h) (Or.inl ⟨by rfl, ?_⟩) hHeld ?_
        rotate_left
        · (intro w hSw; obtain ⟨hs0, hs1⟩ := hSw; go_simp <;> rfl)
        simp only [Act.put, List.getElem_toArray, List.getElem_cons_zero, List.getElem_cons_succ, List.setIfInBounds_toArray, List.set_cons_zero, List.set_cons_succ]
        refine wpAnyH_take (i := 4) (v := ?_) rfl (by kernel_rfl) (by kernel_rfl) (by kernel_rfl) (fun _ _ _ h => h) (Or.inl ⟨by rfl, ?_⟩) hHeld ?_
        rotate_left
        · (intro w hSw; obtain ⟨hs0, hs1⟩ := hSw; go_simp <;> rfl)
        simp only [Act.put, List.getElem_toArray, List.getElem_cons_zero, List.getElem_cons_succ, List.setIfInBounds_toArray, List.set_cons_zero, List.set_cons_succ]
        refine wpAnyH_take (i := 5) (v := ?_) rfl (by kernel_rfl) (by kernel_rfl) (by kernel_rfl) (fun _ _ _ h => h) (Or.inl ⟨by rfl, ?_⟩) hHeld ?_
        rotate_left
        · (intro w hSw; obtain ⟨hs0, hs1⟩ := hSw; go_simp <;> rfl)
        simp only [Act.put, List.getElem_toArray, List.getElem_cons_zero, List.getElem_cons_succ, List.setIfInBounds_toArray, List.set_cons_zero, List.set_cons_succ]
        refine wpAnyH_take (i := 6) (v := ?_) rfl (by kernel_rfl) (by kernel_rfl) (by kernel_rfl) (fun _ _ _ h => h) (Or.inl ⟨by rfl, ?_⟩) hHeld ?_
        rotate_left
        · (intro w hSw; obtain ⟨hs0, hs1⟩ := hSw; go_simp <;> rfl)
        simp only [Act.put, List.getElem_toArray, List.getElem_cons_zero, List.getElem_cons_succ, List.setIfInBounds_toArray, List.set_cons_zero, List.set_cons_succ]
        refine wpAnyH_take (i := 7) (v := ?_) rfl (by kernel_rfl) (by kernel_rfl) (by kernel_rfl) (fun _ _ _ h => h) (Or.inl ⟨by rfl, ?_⟩) hHeld ?_
        rotate_left
        · (intro w hSw; obtain ⟨hs0, hs1⟩ := hSw; go_simp <;> rfl)
        simp only [Act.put, List.getElem_toArray, List.getElem_cons_zero, List.getElem_cons_succ, List.setIfInBounds_toArray, List.set_cons_zero, List.set_cons_succ]
        refine wpAnyH_take (i := 8) (v := ?_) rfl (by kernel_rfl) (by kernel_rfl) (by kernel_rfl) (fun _ _ _ h => h) (Or.inl ⟨by rfl, ?_⟩) hHeld ?_
        rotate_left
        · (intro w hSw; obtain ⟨hs0, hs1⟩ := hSw; go_simp <;> rfl)
        simp only [Act.put, List.getElem_toArray, List.getElem_cons_zero, List.getElem_cons_succ, List.setIfInBounds_toArray, List.set_cons_zero, List.set_cons_succ]
        refine wpAnyH_take (i := 9) (v := ?_) rfl (by kernel_rfl) (by kernel_rfl) (by kernel_rfl) (fun _ _ _ h => h) (Or.inl ⟨by rfl, ?_⟩) hHeld ?_
        rotate_left
        · (intro w hSw; obtain ⟨hs0, hs1⟩ := hSw; go_simp <;> rfl)
        simp only [Act.put, List.getElem_toArray, List.getElem_cons_zero, List.getElem_cons_succ, List.setIfInBounds_toArray, List.set_cons_zero, List.set_cons_succ]
        refine wpAnyH_take (i := 10) (v := ?_) rfl (by kernel_rfl) (by kernel_rfl) (by kernel_rfl) (fun _ _ _ h => h) (Or.inl ⟨by rfl, ?_⟩) hHeld ?_
        rotate_left
        · (intro w hSw; obtain ⟨hs0, hs1⟩ := hSw; go_simp <;> rfl)
        simp only [Act.put, List.getElem_toArray, List.getElem_cons_zero, List.getElem_cons_succ, List.setIfInBounds_toArray, List.set_cons_zero, List.set_cons_succ]
        refine wpAnyH_ready (rs := [11]) (by kernel_rfl) (by simp) ?_
        refine AllReadyH.cons rfl (fun K hK => ?_) AllReadyH.nil
        go_simp
        refine (refInt_any A1 m1 c1 D _ _ (IsB.drew HI1.out) (by omega) hD64.1 hD64.2).mono ?_
        rintro x w2 ⟨B, m, d, rfl, hI2, hb2⟩
        have hb2 : Below wr.heap.size wr w2 := bstep0 ((Below.refl _ wr).drew) hb2
        dsimp only
        refine hK.out _ _ ⟨cell_below hb2 _ _ c8, cell_below hb2 _ _ c9⟩ (fun hHeld => ?_)
        clear hK K
        try simp only [Act.put, List.getElem_toArray, List.getElem_cons_zero, List.getElem_cons_succ, List.setIfInBounds_toArray, List.set_cons_zero, List.set_cons_succ]
        refine wpAnyH_ready (rs := [12]) (by kernel_rfl) (by simp) ?_
        refine AllReadyH.cons rfl (fun K hK => ?_) AllReadyH.nil
        go_simp
        refine hK.out _ _ ⟨cell_below hb2 _ _ c8, cell_below hb2 _ _ c9⟩ (fun hHeld => ?_)
        clear hK K
        try simp only [Act.put, List.getElem_toArray, List.getElem_cons_zero, List.getElem_cons_succ, List.setIfInBounds_toArray, List.set_cons_zero, List.set_cons_succ]
        refine wpAnyH_done (by kernel_rfl) ?_ _
        have hB2 := HBr.out.trans (hb2.mono hsz)
        have hI3 : Hid (IsB w2 B m d ((l ++ [e.op.toUInt8]) ++ encTo p e 4)) := by
          show IsB w2 B m d ((l ++ [e.op.toUInt8]) ++ (encTo p e 3 ++ svar (dif p.b e.b)))
          rw [← hDd.out, ← List.append_assoc (l ++ [e.op.toUInt8])]
          exact hI2
        have HB2 := Lib.hid hB2
        clear c8 c9 hI2 hb2 hB2 hHeld hD
        go_wp2_with fail
        go_roundw
        case rel => exact ⟨4, B, m, d, rfl, by omega, rfl, hI3.out, HB2.out⟩
        case measure => simp [intOf]
    · obtain rfl : i = 4 := by omega
      have hend : Hid ((l ++ [e.op.toUInt8]) ++ encTo p e 4 = l ++ encEv p e) := by
        show (l ++ [e.op.toUInt8]) ++ (((([] ++ _) ++ _) ++ _) ++ _) = l ++ (e.op.toUInt8 :: _)
        simp only [List.nil_append, List.append_assoc, List.cons_append]
      have hB9 := HBC.out.trans (HBr.out.mono HBC.out.size)
      clear hx8 hx9
      go_wp2_with fail
      go_ret
      exact ⟨A1, m1, c1, rfl, by rw [← hend.out]; exact HI1.out, hB9⟩
end Go.Proofs.Ytebpdlggkncliaa
