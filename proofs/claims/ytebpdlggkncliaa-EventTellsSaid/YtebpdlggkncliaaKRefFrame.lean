/-
  The document's own Frame.
-/
import Derived.Test.YtebpdlggkncliaaKRefPut
import Derived.Test.YtebpdlggkncliaaK2
set_option linter.unusedVariables false
set_option linter.unusedSimpArgs false
namespace Go.Proofs.Ytebpdlggkncliaa
open Go.RowKit
open Go.Lib (byteCells byteCells_length byteCells_append uvarint uvarint_small)

set_option maxRecDepth 100000 in
set_option maxHeartbeats 1000000 in
theorem varint_own (x : Nat) (w : World) (hx : x < 18446744073709551616) :
    Calls Try.prog 97 #[.int .u64 (x : Int)] w fun e w' =>
      ∃ v, e = .returned v ∧ Own w' w.heap.size 5 v (uvarint x) ∧ Below w.heap.size w w' := by
  obtain ⟨i0, hi, hz0, hz1, hz2⟩ := info_parts infoByte
  go_enter Try.func97, Try.ntmps97
  go_wp2_with fail
  go_loopw [3, 4] (fun o r wr => ∃ (m : Nat) (pre : List UInt8), r = .int .u64 ((m : Int) / 128) ∧ m < 18446744073709551616 ∧ Hid (uvarint x = pre ++ uvarint m) ∧ Own wr w.heap.size 5 o (pre ++ [(m % 128).toUInt8]) ∧ Below w.heap.size w wr)
    (fun _ r _ => (intOf r).toNat)
  case atStart => exact ⟨x, [], rfl, hx, rfl, own_one w 5 _ _ (by rw [byte128]; omega), (Below.refl _ _).alloc (Nat.le_refl _) _⟩
  case round =>
    obtain ⟨m, pre, rfl, hm, hL, hF, hB⟩ := hrel
    have hlen : pre.length + 1 ≤ 10 := by
      have e := congrArg List.length hL.out
      rw [List.length_append] at e
      have h1 := Lib.uvarint_length64 hx
      have h2 := Lib.uvarint_pos m
      omega
    obtain ⟨k, hk⟩ : ∃ k, pre.length = k := ⟨_, rfl⟩
    have HK := Lib.hid hk
    have hlk : (pre ++ [(m % 128).toUInt8]).length = k + 1 := by rw [List.length_append, hk]; rfl
    obtain ⟨g, c, rfl, hbg, hgs, hM, hO⟩ := own_form hF hlk (by omega)
    rw [hk] at hlen
    have HLK := Lib.hid hlk
    have hqk : (pre ++ [(m % 128).toUInt8])[k]? = some ((m % 128).toUInt8) := by rw [← hk]; simp
    have hB1 := hB.size
    by_cases hge : 128 ≤ m
    · have f1 := hM.cell hqk
      have f2 := hM.free k
      clear hqk hlk hk hF
      obtain ⟨q, hq⟩ : ∃ q : UInt8, q = (m % 128).toUInt8 := ⟨_, rfl⟩
      have HQ := Lib.hid hq
      rw [← hq] at f1 hO hM
      clear hq
      have hq2 : (((m % 128 + 128).toUInt8).toNat : Int) = ((q.toNat : Int) + 128) % 256 := by rw [HQ.out, byte128, byteVal]; omega
      have hq3 : (((m / 128 % 128).toUInt8).toNat : Int) = (m : Int) / 128 % 128 := by rw [byte128]; omega
      have hO2 := own_put hO k _ _ hq2
      have hB2 := hB.setCell (p := ⟨g, k, none⟩) hbg (.int .u8 (((q.toNat : Int) + 128) % 256))
      have HS := Lib.hid (varint_step (q := q) hL.out hge HK.out)
      rw [HS.out.2] at hO2
      obtain ⟨q2, hd2⟩ : ∃ u : UInt8, u = (m % 128 + 128).toUInt8 := ⟨_, rfl⟩
      obtain ⟨q3, hd3⟩ : ∃ u : UInt8, u = (m / 128 % 128).toUInt8 := ⟨_, rfl⟩
      rw [← hd2] at hO2 hq2 HS
      rw [← hd3] at hq3
      have HD3 := Lib.hid hd3
      have HQ2 := Lib.hid hq2
      have HQ3 := Lib.hid hq3
      clear hq2 hq3 hO hM hd2 hd3
      obtain ⟨N, hN⟩ : ∃ N, N = pre ++ [q2] := ⟨_, rfl⟩
      have hNl : N.length = k + 1 := by rw [hN, List.length_append, HK.out]; rfl
      rw [← hN] at hO2 HS
      have HN := Lib.hid hN
      clear hN
      go_wp2_with (at_builtin; refine wpList_put _ rfl _ _ 26 rfl 5 i0 Try.underlying26 hi hz0 hz1 hz2 w.heap.size _ N rfl (.inl (hO2.below ((Below.refl _ _).alloc (Nat.le_refl _) _))) _ 1 1 [q3] rfl rfl (by decide) ?c1 ?c2 ?c3 ?_)
      case c1 => exact new_byte' _ _ (size_setCell _ _ _) _ HQ3.out
      case c2 => omega
      case c3 => simp [size_setCell]; omega
      intro v' w' hown hb
      go_wp2
      go_roundw
      case rel => exact ⟨m / 128, N, by simp, by omega, HS.out.1, by rw [← HD3.out]; exact hown, (hB2.alloc (by rw [size_setCell]; exact hB1) _).trans hb⟩
      case measure => simp [intOf]; omega
    · have hlow : pre ++ [(m % 128).toUInt8] = uvarint x := by
        rw [hL.out, uvarint_small (by omega)]
        congr 2
        have : m % 128 = m := Nat.mod_eq_of_lt (by omega)
        rw [this]
      have hI : Own wr w.heap.size 5 (.slice (some ⟨g, 0, none⟩) (k + 1) c) (uvarint x) := by rw [← hlow]; exact hO
      have hz : (m : Int) / 128 = 0 := by omega
      clear hlow hqk hlk hk hF hO hM HLK HK
      go_wp2_with fail
      go_ret
      exact ⟨_, rfl, hI, hB⟩

theorem nat_u64' (n : Nat) (h : n < 18446744073709551616) : IntKind.u64.wrap (n : Int) = (n : Int) := by
  rw [IntKind.wrap_u64]; omega
theorem body_most (es : List Ev) (h : es.length ≤ 4096) (j : Nat) : (uvarint es.length ++ encEvs Ev.zero (es.take j)).length ≤ 180000 := by
  have h1 := encEvs_most (es.take j) Ev.zero
  have h2 := Lib.uvarint_length64 (x := es.length) (by omega)
  rw [List.length_take] at h1
  rw [List.length_append]
  omega
set_option maxRecDepth 100000 in
set_option maxHeartbeats 4000000 in
theorem refFrame_any (A : Option Addr) (n c : Nat) (es : List Ev) (w : World) (h : IsEv w A n c es) (h1 : 1 ≤ n) (hn : n ≤ 4096) (hok : ∀ x ∈ es, x.ok) :
    Calls Try.prog 45 #[.slice A n c] w fun e w' => ∃ v, e = .returned (.tuple #[v, .int .i64 0]) ∧ Own w' w.heap.size 5 v (frameOf es) ∧ Below w.heap.size w w' := by
  have d0 : ((n : Int) == 0) = false := beq_eq_false_iff_ne.2 (by omega)
  have d1 : decide ((4096 : Int) < (n : Int)) = false := decide_eq_false (by omega)
  have e1 := nat_u64' n (by omega)
  have hlen := h.len
  have hcap := h.cap
  have HV := Lib.hid (varint_own n w (by omega))
  have HE := Lib.hid h
  have HOK := Lib.hid hok
  have HLEN := Lib.hid hlen
  clear h hok hlen
  go_enter Try.func45, Try.ntmps45
  go_wp2_with fail
  refine HV.out.mono ?_
  rintro e w1 ⟨v, rfl, ho, hb1⟩
  obtain ⟨A0, m0, c0, rfl, hI0⟩ := own_slice ho
  have HI0 := Lib.hid hI0
  have HB1 := Lib.hid hb1
  clear ho hI0 hb1 HV
  go_wp2_with fail
  go_loopw [4, 5] (fun bd q wr => ∃ (i : Nat) (A1 : Option Addr) (m1 c1 : Nat), q = .int .i64 (i : Int) ∧ i ≤ n ∧ bd = .slice A1 m1 c1 ∧ IsB wr A1 m1 c1 (uvarint es.length ++ encEvs Ev.zero (es.take i)) ∧ Below w.heap.size w wr)
    (fun _ q _ => n - (intOf q).toNat)
  case atStart => exact ⟨0, A0, m0, c0, rfl, Nat.zero_le _, rfl, by show IsB _ _ _ _ (_ ++ []); rw [List.append_nil, HLEN.out]; exact HI0.out, HB1.out⟩
  case round =>
    obtain ⟨i, A1, m1, c1, rfl, hin, rfl, hI1, hBr⟩ := hrel
    have hm1 := hI1.len
    have hbm := body_most es (by rw [HLEN.out]; exact hn) i
    have hEr := HE.out.below hBr
    have HI1 := Lib.hid hI1
    have HBr := Lib.hid hBr
    have hm2 : m1 ≤ 1000000 := by omega
    clear hI1 hBr hm1 hbm
    by_cases hi : i < n
    · obtain ⟨b, o, x, rfl, hx, x0, x1, x2, x3, x4⟩ := hEr.at_ hi
      have hxok := HOK.out x (List.mem_of_getElem? hx)
      have hd : decide ((i : Int) < (n : Int)) = true := decide_eq_true (by omega)
      have q0 : (0 : Int) ≤ (i : Int) := by omega
      have q1 : (i : Int) < (n : Int) := by omega
      by_cases hi0 : i = 0
      · have hstep : Hid (uvarint es.length ++ encEvs Ev.zero (es.take (i + 1)) = (uvarint es.length ++ encEvs Ev.zero (es.take i)) ++ encEv Ev.zero x) := by
          show _ = _
          rw [put_step hx]
          congr 2
          rw [hi0]
          rfl
        have hd2 : decide ((0 : Int) < (i : Int)) = false := decide_eq_false (by omega)
        have hd2' : ¬ 0 < i := by omega
        clear hEr hx hi0
        have hbk : Below wr.heap.size wr (wr.alloc (.cells #[.int .i64 0, .int .u8 0, .int .i64 0, .int .i64 0, .int .i64 0] 70)) := (Below.refl _ _).alloc (Nat.le_refl _) _
        have hnk : (wr.alloc (.cells #[.int .i64 0, .int .u8 0, .int .i64 0, .int .i64 0, .int .i64 0] 70)).heap[wr.heap.size]? = some (.cells #[.int .i64 0, .int .u8 0, .int .i64 0, .int .i64 0, .int .i64 0] 70 (0, 0)) := heap_alloc_new _ _
        go_wp2_with fail
        generalize wr.alloc (.cells #[.int .i64 0, .int .u8 0, .int .i64 0, .int .i64 0, .int .i64 0] 70) = wk at hbk hnk ⊢
        have y0 := cell_of_row wk _ 0 _ _ _ hnk
        have y1 := cell_of_row wk _ 1 _ _ _ hnk
        have y2 := cell_of_row wk _ 2 _ _ _ hnk
        have y3 := cell_of_row wk _ 3 _ _ _ hnk
        have y4 := cell_of_row wk _ 4 _ _ _ hnk
        have x0' := cell_below hbk _ _ x0
        have x1' := cell_below hbk _ _ x1
        have x2' := cell_below hbk _ _ x2
        have x3' := cell_below hbk _ _ x3
        have x4' := cell_below hbk _ _ x4
        clear x0 x1 x2 x3 x4
        have HBK := Lib.hid hbk
        have HIk := Lib.hid (HI1.out.below hbk)
        clear hbk hnk
        refine wp_region_held_drew (S := fun w' => Below wk.heap.size wk w') (by kernel_rfl) ((Below.refl _ wk).drew) (fun hHeld => ?_)
        have hBase : Below wk.heap.size wk wk.drew := (Below.refl _ wk).drew
        have HIb := Lib.hid (IsB.drew HIk.out)
        generalize wk.drew = wd at hBase hHeld HIb ⊢
        refine wpAnyH_take (i := 0) (v := ?_) rfl (by kernel_rfl) (by kernel_rfl) (by kernel_rfl) (fun _ _ _ h => h) (Or.inl ⟨by rfl, ?_⟩) hHeld ?_
        rotate_left
        · (intro w hSw; have z0 := cell_below hSw _ _ y0; have z1 := cell_below hSw _ _ y1; have z2 := cell_below hSw _ _ y2; have z3 := cell_below hSw _ _ y3; have z4 := cell_below hSw _ _ y4; have r0 := cell_below hSw _ _ x0'; have r1 := cell_below hSw _ _ x1'; have r2 := cell_below hSw _ _ x2'; have r3 := cell_below hSw _ _ x3'; have r4 := cell_below hSw _ _ x4'; go_simp <;> rfl)
        simp only [Act.put, List.getElem_toArray, List.getElem_cons_zero, List.getElem_cons_succ, List.setIfInBounds_toArray, List.set_cons_zero, List.set_cons_succ]
        refine wpAnyH_take (i := 1) (v := ?_) rfl (by kernel_rfl) (by kernel_rfl) (by kernel_rfl) (fun _ _ _ h => h) (Or.inl ⟨by rfl, ?_⟩) hHeld ?_
        rotate_left
        · (intro w hSw; have z0 := cell_below hSw _ _ y0; have z1 := cell_below hSw _ _ y1; have z2 := cell_below hSw _ _ y2; have z3 := cell_below hSw _ _ y3; have z4 := cell_below hSw _ _ y4; have r0 := cell_below hSw _ _ x0'; have r1 := cell_below hSw _ _ x1'; have r2 := cell_below hSw _ _ x2'; have r3 := cell_below hSw _ _ x3'; have r4 := cell_below hSw _ _ x4'; go_simp <;> rfl)
        simp only [Act.put, List.getElem_toArray, List.getElem_cons_zero, List.getElem_cons_succ, List.setIfInBounds_toArray, List.set_cons_zero, List.set_cons_succ]
        refine wpAnyH_take (i := 2) (v := ?_) rfl (by kernel_rfl) (by kernel_rfl) (by kernel_rfl) (fun _ _ _ h => h) (Or.inl ⟨by rfl, ?_⟩) hHeld ?_
        rotate_left
        · (intro w hSw; have z0 := cell_below hSw _ _ y0; have z1 := cell_below hSw _ _ y1; have z2 := cell_below hSw _ _ y2; have z3 := cell_below hSw _ _ y3; have z4 := cell_below hSw _ _ y4; have r0 := cell_below hSw _ _ x0'; have r1 := cell_below hSw _ _ x1'; have r2 := cell_below hSw _ _ x2'; have r3 := cell_below hSw _ _ x3'; have r4 := cell_below hSw _ _ x4'; go_simp <;> rfl)
        simp only [Act.put, List.getElem_toArray, List.getElem_cons_zero, List.getElem_cons_succ, List.setIfInBounds_toArray, List.set_cons_zero, List.set_cons_succ]
        refine wpAnyH_take (i := 3) (v := ?_) rfl (by kernel_rfl) (by kernel_rfl) (by kernel_rfl) (fun _ _ _ h => h) (Or.inl ⟨by rfl, ?_⟩) hHeld ?_
        rotate_left
        · (intro w hSw; have z0 := cell_below hSw _ _ y0; have z1 := cell_below hSw _ _ y1; have z2 := cell_below hSw _ _ y2; have z3 := cell_below hSw _ _ y3; have z4 := cell_below hSw _ _ y4; have r0 := cell_below hSw _ _ x0'; have r1 := cell_below hSw _ _ x1'; have r2 := cell_below hSw _ _ x2'; have r3 := cell_below hSw _ _ x3'; have r4 := cell_below hSw _ _ x4'; go_simp <;> rfl)
        simp only [Act.put, List.getElem_toArray, List.getElem_cons_zero, List.getElem_cons_succ, List.setIfInBounds_toArray, List.set_cons_zero, List.set_cons_succ]
        refine wpAnyH_take (i := 4) (v := ?_) rfl (by kernel_rfl) (by kernel_rfl) (by kernel_rfl) (fun _ _ _ h => h) (Or.inl ⟨by rfl, ?_⟩) hHeld ?_
        rotate_left
        · (intro w hSw; have z0 := cell_below hSw _ _ y0; have z1 := cell_below hSw _ _ y1; have z2 := cell_below hSw _ _ y2; have z3 := cell_below hSw _ _ y3; have z4 := cell_below hSw _ _ y4; have r0 := cell_below hSw _ _ x0'; have r1 := cell_below hSw _ _ x1'; have r2 := cell_below hSw _ _ x2'; have r3 := cell_below hSw _ _ x3'; have r4 := cell_below hSw _ _ x4'; go_simp <;> rfl)
        simp only [Act.put, List.getElem_toArray, List.getElem_cons_zero, List.getElem_cons_succ, List.setIfInBounds_toArray, List.set_cons_zero, List.set_cons_succ]
        refine wpAnyH_take (i := 5) (v := ?_) rfl (by kernel_rfl) (by kernel_rfl) (by kernel_rfl) (fun _ _ _ h => h) (Or.inl ⟨by rfl, ?_⟩) hHeld ?_
        rotate_left
        · (intro w hSw; have z0 := cell_below hSw _ _ y0; have z1 := cell_below hSw _ _ y1; have z2 := cell_below hSw _ _ y2; have z3 := cell_below hSw _ _ y3; have z4 := cell_below hSw _ _ y4; have r0 := cell_below hSw _ _ x0'; have r1 := cell_below hSw _ _ x1'; have r2 := cell_below hSw _ _ x2'; have r3 := cell_below hSw _ _ x3'; have r4 := cell_below hSw _ _ x4'; go_simp <;> rfl)
        simp only [Act.put, List.getElem_toArray, List.getElem_cons_zero, List.getElem_cons_succ, List.setIfInBounds_toArray, List.set_cons_zero, List.set_cons_succ]
        refine wpAnyH_ready (rs := [6]) (by kernel_rfl) (by simp) ?_
        refine AllReadyH.cons rfl (fun K hK => ?_) AllReadyH.nil
        go_simp
        refine (refPut_any A1 m1 c1 _ Ev.zero x wd HIb.out (by omega) Ev.zero_ok hxok).mono ?_
        rintro e w2 ⟨B, m, d, rfl, hI2, hb2⟩
        have hb2 : Below wk.heap.size wk w2 := bstep0 hBase hb2
        dsimp only
        refine hK.out _ _ hb2 (fun hHeld => ?_)
        clear hK K
        try simp only [Act.put, List.getElem_toArray, List.getElem_cons_zero, List.getElem_cons_succ, List.setIfInBounds_toArray, List.set_cons_zero, List.set_cons_succ]
        refine wpAnyH_ready (rs := [7]) (by kernel_rfl) (by simp) ?_
        refine AllReadyH.cons rfl (fun K hK => ?_) AllReadyH.nil
        go_simp
        refine hK.out _ _ hb2 (fun hHeld => ?_)
        clear hK K
        try simp only [Act.put, List.getElem_toArray, List.getElem_cons_zero, List.getElem_cons_succ, List.setIfInBounds_toArray, List.set_cons_zero, List.set_cons_succ]
        refine wpAnyH_done (by kernel_rfl) ?_ _
        have hI3 : Hid (IsB w2 B m d (uvarint es.length ++ encEvs Ev.zero (es.take (i + 1)))) := by
          show IsB w2 B m d _
          rw [hstep.out]
          exact hI2
        have HB2 := Lib.hid ((HBr.out.trans (HBK.out.mono HBr.out.size)).trans (hb2.mono (Nat.le_trans HBr.out.size HBK.out.size)))
        clear y0 y1 y2 y3 y4 x0' x1' x2' x3' x4' hI2 hb2 hHeld hBase
        go_wp2_with fail
        go_roundw
        case rel => exact ⟨i + 1, B, m, d, by go_num, by omega, rfl, hI3.out, HB2.out⟩
        case measure => simp [intOf]; omega
      · obtain ⟨b', o', p, hA', hp, p0, p1, p2, p3, p4⟩ := hEr.at_ (j := i - 1) (by omega)
        simp only [Option.some.injEq, Addr.mk.injEq] at hA'
        obtain ⟨rfl, rfl, -⟩ := hA'
        have hpok := HOK.out p (List.mem_of_getElem? hp)
        have hl1 : lastEv Ev.zero (es.take i) = p := by
          have := last_step hp
          rwa [show i - 1 + 1 = i by omega] at this
        have hstep : Hid (uvarint es.length ++ encEvs Ev.zero (es.take (i + 1)) = (uvarint es.length ++ encEvs Ev.zero (es.take i)) ++ encEv p x) := by
          show _ = _
          rw [← hl1]
          exact put_step hx
        obtain ⟨i1, hi1⟩ : ∃ i1, Hid (i1 = i - 1) := ⟨_, rfl⟩
        have hd2 : decide ((0 : Int) < (i : Int)) = true := decide_eq_true (by omega)
        have hd2' : 0 < i := by omega
        have hsub : wrap64 ((i : Int) - 1) = (i1 : Int) := by rw [hi1.out]; unfold wrap64; omega
        have hsub' : (i : Int) - 1 = (i1 : Int) := by rw [hi1.out]; omega
        have q2 : (0 : Int) ≤ (i1 : Int) := by omega
        have q3 : (i1 : Int) < (n : Int) := by rw [hi1.out]; omega
        rw [← hi1.out] at p0 p1 p2 p3 p4
        have hbz : Below wr.heap.size wr (wr.alloc (.cells #[.int .i64 0, .int .u8 0, .int .i64 0, .int .i64 0, .int .i64 0] 70)) := (Below.refl _ _).alloc (Nat.le_refl _) _
        have p0 := cell_below hbz _ _ p0
        have p1 := cell_below hbz _ _ p1
        have p2 := cell_below hbz _ _ p2
        have p3 := cell_below hbz _ _ p3
        have p4 := cell_below hbz _ _ p4
        clear hEr hx hp hl1 hi0 hbz
        have hbk : Below wr.heap.size wr (wr.alloc (.cells #[.int .i64 p.th, .int .u8 (p.op : Int), .int .i64 p.obj, .int .i64 p.a, .int .i64 p.b] 70)) := (Below.refl _ _).alloc (Nat.le_refl _) _
        have hnk : (wr.alloc (.cells #[.int .i64 p.th, .int .u8 (p.op : Int), .int .i64 p.obj, .int .i64 p.a, .int .i64 p.b] 70)).heap[wr.heap.size]? = some (.cells #[.int .i64 p.th, .int .u8 (p.op : Int), .int .i64 p.obj, .int .i64 p.a, .int .i64 p.b] 70 (0, 0)) := heap_alloc_new _ _
        go_wp2_with fail
        generalize wr.alloc (.cells #[.int .i64 p.th, .int .u8 (p.op : Int), .int .i64 p.obj, .int .i64 p.a, .int .i64 p.b] 70) = wk at hbk hnk ⊢
        have y0 := cell_of_row wk _ 0 _ _ _ hnk
        have y1 := cell_of_row wk _ 1 _ _ _ hnk
        have y2 := cell_of_row wk _ 2 _ _ _ hnk
        have y3 := cell_of_row wk _ 3 _ _ _ hnk
        have y4 := cell_of_row wk _ 4 _ _ _ hnk
        have x0' := cell_below hbk _ _ x0
        have x1' := cell_below hbk _ _ x1
        have x2' := cell_below hbk _ _ x2
        have x3' := cell_below hbk _ _ x3
        have x4' := cell_below hbk _ _ x4
        clear x0 x1 x2 x3 x4 p0 p1 p2 p3 p4
        have HBK := Lib.hid hbk
        have HIk := Lib.hid (HI1.out.below hbk)
        clear hbk hnk
        refine wp_region_held_drew (S := fun w' => Below wk.heap.size wk w') (by kernel_rfl) ((Below.refl _ wk).drew) (fun hHeld => ?_)
        have hBase : Below wk.heap.size wk wk.drew := (Below.refl _ wk).drew
        have HIb := Lib.hid (IsB.drew HIk.out)
        generalize wk.drew = wd at hBase hHeld HIb ⊢
        refine wpAnyH_take (i := 0) (v := ?_) rfl (by kernel_rfl) (by kernel_rfl) (by kernel_rfl) (fun _ _ _ h => h) (Or.inl ⟨by rfl, ?_⟩) hHeld ?_
        rotate_left
        · (intro w hSw; have z0 := cell_below hSw _ _ y0; have z1 := cell_below hSw _ _ y1; have z2 := cell_below hSw _ _ y2; have z3 := cell_below hSw _ _ y3; have z4 := cell_below hSw _ _ y4; have r0 := cell_below hSw _ _ x0'; have r1 := cell_below hSw _ _ x1'; have r2 := cell_below hSw _ _ x2'; have r3 := cell_below hSw _ _ x3'; have r4 := cell_below hSw _ _ x4'; go_simp <;> rfl)
        simp only [Act.put, List.getElem_toArray, List.getElem_cons_zero, List.getElem_cons_succ, List.setIfInBounds_toArray, List.set_cons_zero, List.set_cons_succ]
        refine wpAnyH_take (i := 1) (v := ?_) rfl (by kernel_rfl) (by kernel_rfl) (by kernel_rfl) (fun _ _ _ h => h) (Or.inl ⟨by rfl, ?_⟩) hHeld ?_
        rotate_left
        · (intro w hSw; have z0 := cell_below hSw _ _ y0; have z1 := cell_below hSw _ _ y1; have z2 := cell_below hSw _ _ y2; have z3 := cell_below hSw _ _ y3; have z4 := cell_below hSw _ _ y4; have r0 := cell_below hSw _ _ x0'; have r1 := cell_below hSw _ _ x1'; have r2 := cell_below hSw _ _ x2'; have r3 := cell_below hSw _ _ x3'; have r4 := cell_below hSw _ _ x4'; go_simp <;> rfl)
        simp only [Act.put, List.getElem_toArray, List.getElem_cons_zero, List.getElem_cons_succ, List.setIfInBounds_toArray, List.set_cons_zero, List.set_cons_succ]
        refine wpAnyH_take (i := 2) (v := ?_) rfl (by kernel_rfl) (by kernel_rfl) (by kernel_rfl) (fun _ _ _ h => h) (Or.inl ⟨by rfl, ?_⟩) hHeld ?_
        rotate_left
        · (intro w hSw; have z0 := cell_below hSw _ _ y0; have z1 := cell_below hSw _ _ y1; have z2 := cell_below hSw _ _ y2; have z3 := cell_below hSw _ _ y3; have z4 := cell_below hSw _ _ y4; have r0 := cell_below hSw _ _ x0'; have r1 := cell_below hSw _ _ x1'; have r2 := cell_below hSw _ _ x2'; have r3 := cell_below hSw _ _ x3'; have r4 := cell_below hSw _ _ x4'; go_simp <;> rfl)
        simp only [Act.put, List.getElem_toArray, List.getElem_cons_zero, List.getElem_cons_succ, List.setIfInBounds_toArray, List.set_cons_zero, List.set_cons_succ]
        refine wpAnyH_take (i := 3) (v := ?_) rfl (by kernel_rfl) (by kernel_rfl) (by kernel_rfl) (fun _ _ _ h => h) (Or.inl ⟨by rfl, ?_⟩) hHeld ?_
        rotate_left
        · (intro w hSw; have z0 := cell_below hSw _ _ y0; have z1 := cell_below hSw _ _ y1; have z2 := cell_below hSw _ _ y2; have z3 := cell_below hSw _ _ y3; have z4 := cell_below hSw _ _ y4; have r0 := cell_below hSw _ _ x0'; have r1 := cell_below hSw _ _ x1'; have r2 := cell_below hSw _ _ x2'; have r3 := cell_below hSw _ _ x3'; have r4 := cell_below hSw _ _ x4'; go_simp <;> rfl)
        simp only [Act.put, List.getElem_toArray, List.getElem_cons_zero, List.getElem_cons_succ, List.setIfInBounds_toArray, List.set_cons_zero, List.set_cons_succ]
        refine wpAnyH_take (i := 4) (v := ?_) rfl (by kernel_rfl) (by kernel_rfl) (by kernel_rfl) (fun _ _ _ h => h) (Or.inl ⟨by rfl, ?_⟩) hHeld ?_
        rotate_left
        · (intro w hSw; have z0 := cell_below hSw _ _ y0; have z1 := cell_below hSw _ _ y1; have z2 := cell_below hSw _ _ y2; have z3 := cell_below hSw _ _ y3; have z4 := cell_below hSw _ _ y4; have r0 := cell_below hSw _ _ x0'; have r1 := cell_below hSw _ _ x1'; have r2 := cell_below hSw _ _ x2'; have r3 := cell_below hSw _ _ x3'; have r4 := cell_below hSw _ _ x4'; go_simp <;> rfl)
        simp only [Act.put, List.getElem_toArray, List.getElem_cons_zero, List.getElem_cons_succ, List.setIfInBounds_toArray, List.set_cons_zero, List.set_cons_succ]
        refine wpAnyH_take (i := 5) (v := ?_) rfl (by kernel_rfl) (by kernel_rfl) (by kernel_rfl) (fun _ _ _ h => h) (Or.inl ⟨by rfl, ?_⟩) hHeld ?_
        rotate_left
        · (intro w hSw; have z0 := cell_below hSw _ _ y0; have z1 := cell_below hSw _ _ y1; have z2 := cell_below hSw _ _ y2; have z3 := cell_below hSw _ _ y3; have z4 := cell_below hSw _ _ y4; have r0 := cell_below hSw _ _ x0'; have r1 := cell_below hSw _ _ x1'; have r2 := cell_below hSw _ _ x2'; have r3 := cell_below hSw _ _ x3'; have r4 := cell_below hSw _ _ x4'; go_simp <;> rfl)
        simp only [Act.put, List.getElem_toArray, List.getElem_cons_zero, List.getElem_cons_succ, List.setIfInBounds_toArray, List.set_cons_zero, List.set_cons_succ]
        refine wpAnyH_ready (rs := [6]) (by kernel_rfl) (by simp) ?_
        refine AllReadyH.cons rfl (fun K hK => ?_) AllReadyH.nil
        go_simp
        refine (refPut_any A1 m1 c1 _ p x wd HIb.out (by omega) hpok hxok).mono ?_
        rintro e w2 ⟨B, m, d, rfl, hI2, hb2⟩
        have hb2 : Below wk.heap.size wk w2 := bstep0 hBase hb2
        dsimp only
        refine hK.out _ _ hb2 (fun hHeld => ?_)
        clear hK K
        try simp only [Act.put, List.getElem_toArray, List.getElem_cons_zero, List.getElem_cons_succ, List.setIfInBounds_toArray, List.set_cons_zero, List.set_cons_succ]
        refine wpAnyH_ready (rs := [7]) (by kernel_rfl) (by simp) ?_
        refine AllReadyH.cons rfl (fun K hK => ?_) AllReadyH.nil
        go_simp
        refine hK.out _ _ hb2 (fun hHeld => ?_)
        clear hK K
        try simp only [Act.put, List.getElem_toArray, List.getElem_cons_zero, List.getElem_cons_succ, List.setIfInBounds_toArray, List.set_cons_zero, List.set_cons_succ]
        refine wpAnyH_done (by kernel_rfl) ?_ _
        have hI3 : Hid (IsB w2 B m d (uvarint es.length ++ encEvs Ev.zero (es.take (i + 1)))) := by
          show IsB w2 B m d _
          rw [hstep.out]
          exact hI2
        have HB2 := Lib.hid ((HBr.out.trans (HBK.out.mono HBr.out.size)).trans (hb2.mono (Nat.le_trans HBr.out.size HBK.out.size)))
        clear y0 y1 y2 y3 y4 x0' x1' x2' x3' x4' hI2 hb2 hHeld hBase
        go_wp2_with fail
        go_roundw
        case rel => exact ⟨i + 1, B, m, d, by go_num, by omega, rfl, hI3.out, HB2.out⟩
        case measure => simp [intOf]; omega
    · obtain rfl : n = i := by omega
      have hd : decide ((n : Int) < (n : Int)) = false := by simp
      have hI5 : IsB wr A1 m1 c1 (bodyOf es) := by
        have := HI1.out
        rw [List.take_of_length_le (by rw [HLEN.out]; exact Nat.le_refl _)] at this
        exact this
      have hm5 := hI5.len
      have e2 := nat_u64' m1 (by omega)
      have HV2 := Lib.hid (varint_own m1 wr (by omega))
      have hsz := HBr.out.size
      clear hEr
      go_wp2_with fail
      refine HV2.out.mono ?_
      rintro e w2 ⟨v2, rfl, ho2, hb2⟩
      obtain ⟨A2, m2, c2, rfl, hI2⟩ := own_slice ho2
      have HS := Lib.hid (refSeal_any A1 m1 c1 _ w2 (hI5.below hb2) (by omega))
      have hm2' := hI2.len
      have hbl : (bodyOf es).length ≤ 1000000 := by omega
      have hvl := Lib.uvarint_length64 (x := m1) (by omega)
      have HO2 := Lib.hid ho2
      have HB2 := Lib.hid hb2
      have HM5 := Lib.hid hm5
      clear hI5 ho2 hI2 hb2 hm5 HV2
      go_wp2_with fail
      refine HS.out.mono ?_
      rintro e w3 ⟨B3, m3, d3, rfl, hI3, hb3⟩
      obtain ⟨i0, j2, j3, j4, j5⟩ := info_parts infoByte
      have hm3 := hI3.len
      have hsl : (sealed (bodyOf es)).length = (bodyOf es).length + 4 := by unfold sealed; rw [List.length_append, sumBytes_length]
      obtain ⟨v4, w4, hap, hO4, hb4⟩ := run_putAny (P := Try.prog) w3 26 26 5 i0 Try.underlying26 j2 j3 j4 j5 wr.heap.size (.slice A2 m2 c2) _ (HO2.out.below hb3) B3 m3 d3 _ hI3 (by omega) (Nat.le_trans HB2.out.size hb3.size)
      have hfr : Hid (frameOf es = uvarint m1 ++ sealed (bodyOf es)) := by
        show _ = _
        unfold frameOf
        rw [HM5.out]
      have hO5 := hO4.mono hsz
      have hB5 := (HBr.out.trans (HB2.out.mono hsz)).trans ((hb3.mono (Nat.le_trans hsz HB2.out.size)).trans (hb4.mono hsz))
      clear hI3 hb3 hO4 hb4 hm3 hsl HS
      go_wp2_with (at_builtin; refine wpList_run _ rfl (.tmp 40) (.tmp 42) 26 rfl (R := fun v' w' => v4 = v' ∧ w4 = w') ⟨_, _, hap, rfl, rfl⟩ ?_; rintro v' w' ⟨rfl, rfl⟩)
      refine bodyPost_ret (v := .tuple #[v4, .int .i64 0]) (by simp [results, Try.results45, go_sem]) rfl ⟨v4, rfl, by rw [hfr.out]; exact hO5, hB5⟩
end Go.Proofs.Ytebpdlggkncliaa
