/-
  EventRow: frames one behind the other are read one by one; cut anywhere, those that are whole are.
-/
import Derived.Test.YtinakeabbgphlaaEvRowPre
set_option linter.unusedVariables false
set_option linter.unusedSimpArgs false
namespace Go.Proofs.Ytinakeabbgphlaa
open Go.RowKit
open Go.Lib (byteCells byteCells_length byteCells_append uvarint)

set_option maxRecDepth 100000 in
set_option maxHeartbeats 16000000 in
theorem row_walk (A : Option Addr) (n c : Nat) (xs : List FrC) (B : Option Addr) (m d : Nat) (bh : List UInt8) (cut : Int) (w : World) (hX : IsL 1 (fun cs (x : FrC) => cs = [.slice x.B x.n x.c] ∧ x.ok w) w A n c xs) (hB : IsB w B m d bh) (hcut : In64 cut) (hm : m ≤ maxLen) :
    Calls Try.prog 5 #[.slice A n c, .slice B m d, .int .i64 cut] w fun e w' => e = .returned (.bool true) ∧ Below w.heap.size w w' := by
  unfold maxLen at hm
  have hn := Nat.le_trans hX.cap hX.max
  unfold maxLen at hn
  by_cases h1 : 12 < n
  · have d1 : decide ((12 : Int) < (n : Int)) = true := decide_eq_true (by omega)
    clear hX hB
    go_enter Try.func5, Try.ntmps5
    go_wp2_with fail
    refine (awake3_any _).mono ?_
    rintro e w9 ⟨rfl, hb9⟩
    go_wp2_with fail
    go_ret
    exact ⟨rfl, hb9⟩
  have d1 : decide ((12 : Int) < (n : Int)) = false := decide_eq_false (by omega)
  by_cases h2 : 100 < m
  · have d2 : decide ((100 : Int) < (m : Int)) = true := decide_eq_true (by omega)
    clear hX hB
    go_enter Try.func5, Try.ntmps5
    go_wp2_with fail
    refine (awake3_any _).mono ?_
    rintro e w9 ⟨rfl, hb9⟩
    go_wp2_with fail
    go_ret
    exact ⟨rfl, hb9⟩
  have d2 : decide ((100 : Int) < (m : Int)) = false := decide_eq_false (by omega)
  have hnn : n ≤ 12 := by omega
  have hmm : m ≤ 100 := by omega
  have HX := Lib.hid hX
  have HBH := Lib.hid hB
  obtain ⟨fs, hfs⟩ : ∃ fs, Hid (fs = xs.map FrC.es) := ⟨_, rfl⟩
  have HFL : Hid (fs.length = n) := by show _ = _; rw [hfs.out, List.length_map]; exact hX.len
  clear hX hB hm hn h1 h2
  go_enter Try.func5, Try.ntmps5
  go_wp2_with fail
  have hE0 := owni_one w 3 rfl
  have hb0 : Below w.heap.size w (w.alloc (.cells #[.int .i64 0] 3)) := (Below.refl _ _).alloc (Nat.le_refl _) _
  go_loopw [7, 8, 9] (fun v e q wr => ∃ (j : Nat) (r : Raw) (A7 : Option Addr) (n7 c7 : Nat) (Ae : Option Addr) (ne ce : Nat) (E : List Nat), q = .int .i64 (j : Int) ∧ j ≤ n ∧ v = .slice A7 n7 c7 ∧ Hid (r.sl = .slice A7 n7 c7) ∧ FRow wr r ∧
    Hid (r.c = (rowF (fs.take j), 0)) ∧ (∀ b, r.g = some b → w.heap.size ≤ b) ∧ e = .slice Ae ne ce ∧ OwnI wr w.heap.size (.slice Ae ne ce) E ∧ Hid (EndsOK fs j E) ∧ Hid (∀ f ∈ fs.take j, f.length ≤ 30) ∧ Below w.heap.size w wr) (fun _ _ q _ => n - (intOf q).toNat)
  case atStart => exact ⟨0, ⟨none, 0, ([], 0)⟩, none, 0, 0, _, 1, 1, [0], rfl, by omega, rfl, rfl, World.ownsRow_nil _ _ _ 1, rfl, (fun b hb => by cases hb), rfl, hE0, ends_start fs, (by intro f hf; simp at hf), hb0⟩
  case round =>
    clear hE0 hb0
    obtain ⟨j, r, A7, n7, c7, Ae, ne, ce, E, rfl, hj, rfl, hsl, hr, hrc, hrg, rfl, hE, hEO, hsm, hBr⟩ := hrel
    by_cases hjn : j < n
    · have hXr : IsL 1 (fun cs (x : FrC) => cs = [.slice x.B x.n x.c] ∧ x.ok w) wr A n c xs := HX.out.below hBr (fun _ _ h => h)
      obtain ⟨fb, fo, x, cs, rfl, hx, hcl, hat, rfl, hxo⟩ := hXr.at_ hjn
      have c0 : wr.cell? ⟨fb, fo + j, none⟩ = some (.slice x.B x.n x.c) := by have := hat 0 _ rfl; simpa using this
      have hfx : fs[j]? = some x.es := by rw [hfs.out, List.getElem?_map, hx]; rfl
      have hd : decide ((j : Int) < (n : Int)) = true := decide_eq_true (by omega)
      have HFX := Lib.hid hfx
      have hxl := hxo.ev.len
      have HXO := Lib.hid hxo
      have HXL := Lib.hid hxl
      have hxm := Nat.le_trans hxo.ev.cap hxo.most
      unfold maxLen at hxm
      clear hx hat hcl hXr hfx hxo hxl
      by_cases h30 : 30 < x.n
      · have q1 : decide ((30 : Int) < (x.n : Int)) = true := decide_eq_true (by omega)
        clear hr hE hxm h30
        go_wp2_with fail
        refine (awake3_any _).mono ?_
        rintro e w9 ⟨rfl, hb9⟩
        go_wp2_with fail
        go_ret
        exact ⟨rfl, hBr.trans (hb9.mono hBr.size)⟩
      · have q1 : decide ((30 : Int) < (x.n : Int)) = false := decide_eq_false (by omega)
        have hx30 : x.n ≤ 30 := by omega
        have hsm' : Hid (∀ f ∈ fs.take (j + 1), f.length ≤ 30) := by
          intro f hf
          rw [take_one HFX.out] at hf
          rcases List.mem_append.1 hf with hf | hf
          · exact hsm.out f hf
          · simp at hf; subst hf; rw [HXL.out]; exact hx30
        have hn7 : n7 ≤ 20000 := by
          rw [sl_same hsl.out, hrc.out]
          have := rowF_most (fs.take j) hsm.out
          rw [List.length_take] at this
          show (rowF (fs.take j)).length ≤ 20000
          omega
        have hzr := hBr.size
        clear hxm h30
        by_cases hx0 : x.n = 0
        · have hc0 := Frame_none x.B x.c wr
          obtain ⟨v', w2, hap, g, cap, rfl, hrow, hg, hgr⟩ := rowB hr (IsB.nil wr) (by rw [hrc.out]; show (rowF (fs.take j)).length + 0 ≤ _; have e1 := sl_same hsl.out; rw [hrc.out] at e1; have e2 : n7 = (rowF (fs.take j)).length := e1; omega) A7 n7 c7 hsl.out 27
          have hag := Away.of_grown hgr
          have hE2 := hE.away hag fun b hb e => by
            obtain ⟨cs, hcs, _⟩ := hE.type hb
            obtain ⟨cs', hcs'⟩ := row_type hr e
            rw [hcs] at hcs'; simp at hcs'
          have hB2 := hBr.trans (hag.below (B := w.heap.size) hzr fun b hb => hrg b hb)
          have hg2 : ∀ b, g = some b → w.heap.size ≤ b := fun b hb => by
            rcases hg with e | e
            · rw [e] at hb; exact hrg b hb
            · rw [e] at hb; injection hb with hb; omega
          have HC0 := Lib.hid hc0
          have hes0 : x.es.length = 0 := by rw [HXL.out]; exact hx0
          have q2 : decide ((0 : Int) < (x.n : Int)) = false := decide_eq_false (by omega)
          have hrc2 : Hid ((⟨g, cap, (r.c.1 ++ [], r.c.2)⟩ : Raw).c = (rowF (fs.take (j + 1)), 0)) := by
            show _ = _
            rw [rowF_step HFX.out, List.eq_nil_of_length_eq_zero hes0]
            show (r.c.1 ++ [], r.c.2) = _
            rw [hrc.out]
            rfl
          have hsl2 : Hid ((⟨g, cap, (r.c.1 ++ [], r.c.2)⟩ : Raw).sl = .slice (g.map fun b => ⟨b, 0, none⟩) n7 cap) := by
            show _ = _
            unfold Raw.sl
            rw [List.append_nil, ← sl_same hsl.out]
          have hEO2 : Hid (EndsOK fs (j + 1) E) := ends_none hEO.out HFX.out hes0
          have HR2 := Lib.hid hrow
          have HE2 := Lib.hid hE2
          have HG2 := Lib.hid hg2
          have HB2 := Lib.hid hB2
          clear hc0 hr hE hag hE2 hB2 hg2 hes0 hrow hg hgr hrg
          go_wp2_with fail
          refine HC0.out.mono ?_
          rintro e w' ⟨rfl, rfl⟩
          go_wp2_with (at_builtin; refine wpList_run _ rfl (.tmp 62) (.tmp 63) 27 rfl (R := fun v' w' => v' = .slice (g.map fun b => ⟨b, 0, none⟩) n7 cap ∧ w' = w2) ⟨_, _, hap, rfl, rfl⟩ ?_; rintro v' w' ⟨rfl, rfl⟩)
          go_roundw
          case rel => exact ⟨j + 1, ⟨g, cap, (r.c.1 ++ [], r.c.2)⟩, _, _, _, Ae, ne, ce, E, by go_num, by omega, rfl, hsl2, HR2.out, hrc2, HG2.out, rfl, HE2.out, hEO2, hsm', HB2.out⟩
          case measure => simp [intOf]; omega
        · have hc1 := Frame_any x.B x.n x.c x.es wr (HXO.out.ev.below hBr) (by omega) (by omega) HXO.out.good
          have HC1 := Lib.hid hc1
          have q2 : decide ((0 : Int) < (x.n : Int)) = true := decide_eq_true (by omega)
          have q3 : decide (0 < x.n) = true := decide_eq_true (by omega)
          clear hc1
          go_wp2_with fail
          refine HC1.out.mono ?_
          rintro e w1 ⟨v1, rfl, ho1, hb1⟩
          obtain ⟨A1, m1, c1, rfl, hI1⟩ := own_slice ho1
          have hm1 := hI1.len
          have hfs1 := frame_small (f := x.es) (by rw [HXL.out]; exact hx30)
          rw [bytesF_some (by rw [HXL.out]; omega), hm1] at hfs1
          have hr1 := hr.away (Away.of_new hb1 (fun _ => False)) (fun _ _ f => f)
          have hE1 := hE.below hb1
          obtain ⟨v', w2, hap, g, cap, rfl, hrow, hg, hgr⟩ := rowB hr1 hI1 (by rw [← sl_same hsl.out]; omega) A7 n7 c7 hsl.out 27
          have hag := Away.of_grown hgr
          have hE2 := hE1.away hag fun b hb e => by
            obtain ⟨cs, hcs, _⟩ := hE1.type hb
            obtain ⟨cs', hcs'⟩ := row_type hr1 e
            rw [hcs] at hcs'; simp at hcs'
          have hz1 := hb1.size
          have c1' := cell_below hb1 _ _ c0
          have hB2 := (hBr.trans (hb1.mono hzr)).trans (hag.below (B := w.heap.size) (by omega) fun b hb => hrg b hb)
          have hg2 : ∀ b, g = some b → w.heap.size ≤ b := fun b hb => by
            rcases hg with e | e
            · rw [e] at hb; exact hrg b hb
            · rw [e] at hb; injection hb with hb; omega
          have hz2 := hB2.size
          have hb3 : Below w2.heap.size w2 (w2.alloc (.cells #[.int .i64 ((n7 + m1 : Nat) : Int)] 3)) := (Below.refl _ _).alloc (Nat.le_refl _) _
          have hz3 := hb3.size
          have hc3 := heap_alloc_new w2 (.cells #[.int .i64 ((n7 + m1 : Nat) : Int)] 3)
          have hEl : E.length ≤ 100 := by
            rw [hEO.out.1]
            have := cntF_most (fs.take j)
            rw [List.length_take] at this
            omega
          obtain ⟨v3, w4, hap3, A3, c3, rfl, hE4, hA4⟩ := oi_append (hE2.below hb3) (Nat.le_trans hz2 hz3) 45 (n7 + m1) hc3 (by omega)
          have hr4 := (hrow.away (Away.of_new hb3 (fun _ => False)) (fun _ _ f => f)).away hA4 fun b hb e => by
            obtain ⟨cs, hcs, _⟩ := (hE2.below hb3).type e
            obtain ⟨cs', hcs'⟩ := row_type (hrow.away (Away.of_new hb3 (fun _ => False)) (fun _ _ f => f)) hb
            rw [hcs] at hcs'; simp at hcs'
          have hB4 := (hB2.trans (hb3.mono hz2)).trans (hA4.below (B := w.heap.size) (Nat.le_trans hz2 hz3) fun b e => ((hE2.below hb3).type e).choose_spec.2)
          have hrc2 : Hid ((⟨g, cap, (r.c.1 ++ frameOf x.es, r.c.2)⟩ : Raw).c = (rowF (fs.take (j + 1)), 0)) := by
            show _ = _
            rw [rowF_step HFX.out, bytesF_some (by rw [HXL.out]; omega)]
            show (r.c.1 ++ frameOf x.es, r.c.2) = _
            rw [hrc.out]
          have hsl2 : Hid ((⟨g, cap, (r.c.1 ++ frameOf x.es, r.c.2)⟩ : Raw).sl = .slice (g.map fun b => ⟨b, 0, none⟩) (n7 + m1) cap) := by
            show _ = _
            unfold Raw.sl
            rw [List.length_append, hm1, ← sl_same hsl.out]
          have hEO2 : Hid (EndsOK fs (j + 1) (E ++ [n7 + m1])) := by
            have h5 := ends_some hEO.out HFX.out (by rw [HXL.out]; omega)
            have h6 : (rowF (fs.take (j + 1))).length = n7 + m1 := by
              have h7 := hrc2.out
              have h8 := congrArg (fun p => p.1.length) h7
              simp only [List.length_append] at h8
              rw [← h8, hm1, ← sl_same hsl.out]
            rw [h6] at h5
            exact h5
          have HR2 := Lib.hid hr4
          have HE2 := Lib.hid hE4
          have HG2 := Lib.hid hg2
          have HB2 := Lib.hid hB4
          clear ho1 hI1 hr1 hE1 hag hE2 hB2 hg2 hb3 hc3 hE4 hA4 hr4 hB4 hrow hg hgr hrg hr hE hb1 hBr
          go_wp2_with (at_builtin; first
            | (refine wpList_run _ rfl (.tmp 62) (.tmp 63) 27 rfl (R := fun v' w' => v' = .slice (g.map fun b => ⟨b, 0, none⟩) (n7 + m1) cap ∧ w' = w2) ⟨_, _, hap, rfl, rfl⟩ ?_; rintro v' w' ⟨rfl, rfl⟩)
            | (refine wpList_run _ rfl (.tmp 67) (.tmp 70) 45 rfl (R := fun v' w' => v' = .slice A3 (ne + 1) c3 ∧ w' = w4) ⟨_, _, hap3, rfl, rfl⟩ ?_; rintro v' w' ⟨rfl, rfl⟩))
          go_roundw
          case rel => exact ⟨j + 1, ⟨g, cap, (r.c.1 ++ frameOf x.es, r.c.2)⟩, _, _, _, A3, ne + 1, c3, E ++ [n7 + m1], by go_num, by omega, rfl, hsl2, HR2.out, hrc2, HG2.out, rfl, HE2.out, hEO2, hsm', HB2.out⟩
          case measure => simp [intOf]; omega
    · obtain rfl : n = j := by omega
      have hd : decide ((n : Int) < (n : Int)) = false := by simp
      have hI := sl_isB hr hsl.out
      rw [hrc.out, List.take_of_length_le (by rw [HFL.out]; omega)] at hI
      have hI : IsB wr A7 n7 c7 (rowF fs) := hI
      have hn7 : n7 ≤ 20000 := by
        rw [← hI.len]
        have h8 := rowF_most fs fun f hf => hsm.out f (by rw [List.take_of_length_le (by rw [HFL.out]; omega)]; exact hf)
        have h9 := HFL.out
        omega
      have hP := pick_one cut n7 wr (by omega) hcut
      have HP := Lib.hid hP
      clear hP
      go_wp2_with fail
      refine HP.out.mono ?_
      rintro e w' ⟨rfl, rfl⟩
      go_wp2_with fail
      have hK : pickOf cut (n7 + 1) ≤ n7 := by have := pickOf_lt cut (n := n7 + 1) (by omega); omega
      generalize pickOf cut (n7 + 1) = K at hK
      have HI := Lib.hid hI
      have HE := Lib.hid hE
      have HBr := Lib.hid hBr
      have hne : ne = E.length := by
        obtain ⟨A', c', hv, _⟩ := hE.form
        simp only [Value.slice.injEq] at hv
        exact hv.2.1
      subst hne
      have hcap := hI.cap
      have hfn : fs.take n = fs := List.take_of_length_le (by rw [HFL.out]; omega)
      have HFN := Lib.hid hfn
      clear hr hE hBr hI hsl hrc hrg HP hcut hfn
      go_loopw [13, 14, 15] (fun at_ nn q wq => ∃ (i a z : Nat), q = .int .i64 (i : Int) ∧ i ≤ n ∧ at_ = .int .i64 (a : Int) ∧ Hid (a = (rowF (fs.take i)).length) ∧ nn = .int .i64 (z : Int) ∧ Hid (z = cntF (fs.take i)) ∧ Below wr.heap.size wr wq) (fun _ _ q _ => n - (intOf q).toNat)
      case atStart => exact ⟨0, 0, 0, rfl, by omega, rfl, rfl, rfl, rfl, Below.refl _ _⟩
      case round =>
        obtain ⟨i, a, z, rfl, hi, rfl, ha, rfl, hz, hBq⟩ := hrel
        by_cases hin : i < n
        · have hXr : IsL 1 (fun cs (x : FrC) => cs = [.slice x.B x.n x.c] ∧ x.ok w) wr A n c xs := HX.out.below (HBr.out.trans (hBq.mono HBr.out.size)) (fun _ _ h => h)
          obtain ⟨fb, fo, x, cs, rfl, hx, hcl, hat, rfl, hxo⟩ := hXr.at_ hin
          have c0 : wr.cell? ⟨fb, fo + i, none⟩ = some (.slice x.B x.n x.c) := by have := hat 0 _ rfl; simpa using this
          have hfx : fs[i]? = some x.es := by rw [hfs.out, List.getElem?_map, hx]; rfl
          have hd2 : decide ((i : Int) < (n : Int)) = true := decide_eq_true (by omega)
          have HFX := Lib.hid hfx
          have hxl := hxo.ev.len
          have HXO := Lib.hid hxo
          have HXL := Lib.hid hxl
          clear hx hat hcl hXr hfx hxo hxl
          by_cases hx0 : x.n = 0
          · have q4 : ((x.n : Int) == 0) = true := by rw [hx0]; rfl
            have hes0 : x.es = [] := List.eq_nil_of_length_eq_zero (by rw [HXL.out]; exact hx0)
            have ha2 : Hid (a = (rowF (fs.take (i + 1))).length) := by
              show _ = _
              rw [rowF_step HFX.out, hes0, ha.out]
              simp [bytesF]
            have hz2 : Hid (z = cntF (fs.take (i + 1))) := by
              show _ = _
              rw [cntF_step HFX.out, hes0, hz.out]
              rfl
            go_wp2_with fail
            go_roundw
            case rel => exact ⟨i + 1, a, z, by go_num, by omega, rfl, ha2, rfl, hz2, hBq⟩
            case measure => simp [intOf]; omega
          · have q4 : ((x.n : Int) == 0) = false := beq_eq_false_iff_ne.2 (by omega)
            obtain ⟨N, hN⟩ : ∃ N, Hid ((frameOf x.es).length = N) := ⟨_, rfl⟩
            have hx1 : 1 ≤ x.es.length := by rw [HXL.out]; omega
            have hx30 : x.es.length ≤ 30 := hsm.out _ (by rw [HFN.out]; exact List.mem_of_getElem? HFX.out)
            have hEvs : Evs x.es := ⟨hx1, by omega, HXO.out.good⟩
            have hsp := row_split HFX.out hx1 bh
            have hs0 := row_split HFX.out hx1 []
            rw [List.append_nil, List.append_nil] at hs0
            have ha1 : (rowF (fs.take i)).length = a := ha.out.symm
            have hrow1 : (rowF (fs.take (i + 1))).length = a + N := by
              rw [rowF_step HFX.out, List.length_append, bytesF_some hx1, hN.out, ha1]
            have hcnt1 : cntF (fs.take (i + 1)) = z + 1 := by
              rw [cntF_step HFX.out, if_neg (by omega), hz.out]
            have haN : a + N ≤ n7 := by
              have := congrArg List.length hs0
              rw [HI.out.len, List.length_append, List.length_append, ha1, hN.out] at this
              omega
            have hEc : E[z + 1]? = some (a + N) := by
              have := hEO.out.2 (i + 1) (by omega)
              rwa [hrow1, hcnt1] at this
            have hzE : z + 1 < E.length := by exact (List.getElem?_eq_some_iff.1 hEc).1
            have hz100 : z ≤ 100 := by
              have := cntF_most (fs.take i)
              rw [List.length_take, ← hz.out] at this
              omega
            have hdr : (rowF fs).drop a = frameOf x.es ++ rowF (fs.drop (i + 1)) := by
              rw [hs0, ← ha1, List.drop_left]
            have HDR := Lib.hid hdr
            have HSP := Lib.hid hsp
            have HEV := Lib.hid hEvs
            have HEC := Lib.hid hEc
            have HR1 : Hid (a + N = (rowF (fs.take (i + 1))).length) := hrow1.symm
            have HC1 : Hid (z + 1 = cntF (fs.take (i + 1))) := hcnt1.symm
            clear hsp hs0 hdr hEvs hEc hrow1 hcnt1
            go_wp2_with fail
            have hIq := HI.out.below hBq
            have hBhq := HBH.out.below (HBr.out.trans (hBq.mono HBr.out.size))
            refine (copybytes_any hIq (by omega)).mono ?_
            rintro e w9 ⟨B9, c9, rfl, hSp, hb9⟩
            obtain ⟨A1, c1, wA, hr1, hS1, hbA⟩ := spare_append hSp hb9.size (hBhq.below hb9) (by omega)
            have hAll := hb9.trans hbA
            have HRF := Lib.hid (Read_frame (N := N) hS1.is_ HSP.out HEV.out (by omega) ha1 hN.out.symm)
            have hBA := hBq.trans (hAll.mono hBq.size)
            have HCA := cell_below hAll _ _ c0
            clear hSp hS1 hb9 hbA hIq hBhq
            go_wp2_with (at_builtin; refine wpList_run _ rfl (.tmp 91) (.tmp 92) 27 rfl (R := fun v' w' => v' = .slice A1 (n7 + m) c1 ∧ w' = wA) ⟨_, _, hr1, rfl, rfl⟩ ?_; rintro v' w' ⟨rfl, rfl⟩)
            refine HRF.out.mono ?_
            rintro e w10 ⟨⟨B10, q10, d10, rfl, hO10, hq10⟩, hb10⟩
            have hB10 := hBA.trans (hb10.mono hBA.size)
            have hE10 := HE.out.below hB10
            obtain ⟨g, rfl, hcE⟩ := hE10.cell HEC.out
            have hcE : w10.cell? ⟨g, z + 1, none⟩ = some (.int .i64 ((a : Int) + (N : Int))) := by rw [← Int.natCast_add]; exact hcE
            have c10 := cell_below hb10 _ _ HCA
            obtain ⟨B', n', d', he, hIE, -, -⟩ := hO10.is_
            simp only [Value.slice.injEq] at he
            obtain ⟨rfl, rfl, rfl⟩ := he
            have hle10 : q10 ≤ 1000000 := by rw [hq10]; omega
            subst hq10
            have hxe := HXO.out.ev.below (HBr.out.trans (hB10.mono HBr.out.size))
            have HSE := Lib.hid (sameev_self hIE hxe hle10 (by have := HXL.out; omega))
            clear hIE hxe hE10 hO10 hb10 hBA hAll hBq
            go_wp2_with fail
            refine HSE.out.mono ?_
            rintro e w11 ⟨rfl, hb11⟩
            have hB11 := hB10.trans (hb11.mono hB10.size)
            have hIT := (HI.out.below hB11).take' hK
            have hRD := cut_read hIT HDR.out HEV.out (by rw [HI.out.len]; exact hK) (by omega) hN.out
            obtain ⟨nx, f, hRd, hf⟩ := hRD
            have HRd := Lib.hid hRd
            have HB11 := Lib.hid hB11
            clear hIT hRd hB11 hb11 hB10
            by_cases haK : a ≤ K
            · have q7 : decide ((a : Int) ≤ (K : Int)) = true := decide_eq_true (by omega)
              have hf2 := Lib.hid (hf.out haK)
              clear hf
              by_cases hNK : a + N ≤ K
              · have q9 : decide ((a : Int) + (N : Int) ≤ (K : Int)) = true := decide_eq_true (by omega)
                have hf0 : f = 0 := hf2.out.2 hNK
                clear hf2
                subst hf0
                go_wp2_with fail
                refine HRd.out.mono ?_
                rintro e w12 ⟨⟨v12, rfl⟩, hb12⟩
                have hB12 := HB11.out.trans (hb12.mono HB11.out.size)
                go_wp2_with fail
                go_roundw
                case rel => exact ⟨i + 1, a + N, z + 1, by go_num, by omega, by rw [Int.natCast_add], HR1, by go_num, HC1, hB12⟩
                case measure => simp [intOf]; omega
              · have q9 : decide ((a : Int) + (N : Int) ≤ (K : Int)) = false := decide_eq_false (by omega)
                have q8 : ((f : Int) == 0) = false := beq_eq_false_iff_ne.2 (by intro h; exact hNK (hf2.out.1 (by omega)))
                clear hf2
                go_wp2_with fail
                refine HRd.out.mono ?_
                rintro e w12 ⟨⟨v12, rfl⟩, hb12⟩
                have hB12 := HB11.out.trans (hb12.mono HB11.out.size)
                go_wp2_with fail
                go_roundw
                case rel => exact ⟨i + 1, a + N, z + 1, by go_num, by omega, by rw [Int.natCast_add], HR1, by go_num, HC1, hB12⟩
                case measure => simp [intOf]; omega
            · have q7 : decide ((a : Int) ≤ (K : Int)) = false := decide_eq_false (by omega)
              clear hf
              go_wp2_with fail
              refine HRd.out.mono ?_
              rintro e w12 ⟨⟨v12, rfl⟩, hb12⟩
              have hB12 := HB11.out.trans (hb12.mono HB11.out.size)
              go_wp2_with fail
              go_roundw
              case rel => exact ⟨i + 1, a + N, z + 1, by go_num, by omega, by rw [Int.natCast_add], HR1, by go_num, HC1, hB12⟩
              case measure => simp [intOf]; omega
        · obtain rfl : n = i := by omega
          have hd2 : decide ((n : Int) < (n : Int)) = false := by simp
          obtain rfl : n7 = a := by rw [ha.out, HFN.out, HI.out.len]
          have hBw := HBr.out.trans (hBq.mono HBr.out.size)
          go_wp2_with fail
          refine (awake3_any _).mono ?_
          rintro e w9 ⟨rfl, hb9⟩
          go_wp2_with fail
          go_ret
          exact ⟨rfl, hBw.trans (hb9.mono hBw.size)⟩
end Go.Proofs.Ytinakeabbgphlaa
