/-
  Columns: the runs of each, and its bytes.
-/
import Derived.Test.YtiockkphciadeaaK6
import Derived.Test.YtiockkphciadeaaK5
set_option linter.unusedVariables false
set_option linter.unusedSimpArgs false
namespace Go.Proofs.Ytiockkphciadeaa
open Go.RowKit
open Go.Lib (byteCells byteCells_length byteCells_append uvarint)
theorem good_mem : ∀ {rs : List Run} {r : Run}, Good rs → r ∈ rs → r.1 ∈ expand rs ∧ r.2 ≤ (expand rs).length
  | [], _, _, h => by cases h
  | q :: rs, r, hg, h => by
    rw [expand_cons, List.length_append, List.length_replicate]
    rcases List.mem_cons.1 h with rfl | h
    · exact ⟨List.mem_append.2 (.inl (List.mem_replicate.2 ⟨by have := hg.1; omega, rfl⟩)), by omega⟩
    · have := good_mem hg.2.2 h
      exact ⟨List.mem_append.2 (.inr this.1), by omega⟩
theorem encRuns_most : ∀ (rs : List Run), (∀ x ∈ rs, In64 x.1 ∧ x.2 < 18446744073709551616) → (encRuns rs).length ≤ 20 * rs.length
  | [], _ => by simp [encRuns]
  | r :: rs, h => by
    have h1 := h r (by simp)
    have h2 := svar_most h1.1
    have h3 := Lib.uvarint_length64 h1.2
    have h4 := encRuns_most rs fun x hx => h x (by simp [hx])
    rw [encRuns_cons, List.length_append, List.length_append, List.length_cons]
    omega

set_option maxRecDepth 100000 in
set_option maxHeartbeats 2000000 in
theorem runs_0 {w : World} {A : Option Addr} {n c : Nat} {es : List Ev} (h : IsEv w A n c es) (hn : n ≤ 1048576) (hok : ∀ x ∈ es, x.ok) :
    Calls Try.prog 120 #[.agg #[fnV 110, fnV 111], .slice A n c] w fun e w' => (∃ A' m cp, e = .returned (.slice A' m cp) ∧ OwnR w' w.heap.size (.slice A' m cp) (runsOf (diffs 0 (es.map (colGet 0))))) ∧ Below w.heap.size w w' := by
  obtain ⟨xs, hxs⟩ : ∃ xs, Hid (es.map (colGet 0) = xs) := ⟨_, rfl⟩
  rw [hxs.out]
  have HXL : Hid (xs.length = n) := by show _ = _; rw [← hxs.out, List.length_map]; exact h.len
  have hbox : Below w.heap.size w (w.alloc (.cells #[fnV 110, fnV 111] 133)) := (Below.refl _ _).alloc (Nat.le_refl _) _
  have hbs : (w.alloc (.cells #[fnV 110, fnV 111] 133)).heap.size = w.heap.size + 1 := Array.size_push _
  have hbc : (w.alloc (.cells #[fnV 110, fnV 111] 133)).heap[w.heap.size]? = some (.cells #[fnV 110, fnV 111] 133 (0, 0)) := heap_alloc_new _ _
  have hE := h.below hbox
  have HOK := Lib.hid hok
  clear h hok
  go_enter Try.func120, Try.ntmps120
  go_wp2_with fail
  generalize w.alloc (.cells #[fnV 110, fnV 111] 133) = W at hbox hbs hbc hE ⊢
  have HBX := Lib.hid hbox
  have HBS := Lib.hid hbs
  have HBC := Lib.hid hbc
  have HE := Lib.hid hE
  clear hbox hbs hbc hE
  go_loopw [5, 6, 14] (fun out ah q wr => ∃ (i : Nat) (A' : Option Addr) (m cp : Nat) (rs : List Run) (a : Int), q = .int .i64 (i : Int) ∧ i ≤ n ∧ out = .slice A' m cp ∧ OwnR wr W.heap.size (.slice A' m cp) rs ∧ Hid (Good rs) ∧ Hid (expand rs = diffs 0 (xs.take i)) ∧ ah = .int .i64 a ∧ Hid (a = endOf 0 (xs.take i)) ∧ Below W.heap.size W wr)
    (fun _ _ q _ => n - (intOf q).toNat)
  case atStart => exact ⟨0, none, 0, 0, [], 0, rfl, Nat.zero_le _, rfl, OwnR.nil _ _, trivial, rfl, rfl, rfl, Below.refl _ _⟩
  case round =>
    obtain ⟨i, A', m, cp, rs, a, rfl, hin, rfl, hO, hG, hX, rfl, ha, hBr⟩ := hrel
    by_cases hi : i < n
    · obtain ⟨b, o, x, rfl, hx, x0, x1, x2, x3, x4⟩ := (HE.out.below hBr).at_ hi
      have hcap := HE.out.cap
      have hxok := HOK.out x (List.mem_of_getElem? hx)
      have hxop := hxok.op
      have hXi : xs[i]? = some x.th := by rw [← hxs.out, List.getElem?_map, hx]; rfl
      have hXi64 : In64 x.th := colGet_in hxok 0
      have hd : decide ((i : Int) < (n : Int)) = true := decide_eq_true (by omega)
      have q0 : (0 : Int) ≤ (i : Int) := by omega
      have q1 : (i : Int) < (n : Int) := by omega
      have hsz := hBr.size
      have hbox : wr.heap[w.heap.size]? = some (.cells #[fnV 110, fnV 111] 133 (0, 0)) := (hBr.block _ (by rw [HBS.out]; omega)).trans HBC.out
      have hf0 : wr.cell? ⟨w.heap.size, 0, none⟩ = some (fnV 110) := cell_of_row _ _ 0 _ _ _ hbox
      have hlt := (Array.getElem?_eq_some_iff.1 hbox).1
      have hml := hO.len.1
      have hstep : xs.take (i + 1) = xs.take i ++ [x.th] := take_one hXi
      have hdl : (expand rs).length = i := by rw [hX.out, diffs_length, List.length_take, HXL.out]; omega
      have hrl := runs_le hG.out
      have hmi : m ≤ i := by omega
      obtain ⟨D, hD1, hD⟩ : ∃ D : Int, Hid (D = dif a x.th) ∧ wrap64 (x.th - a) = D := ⟨_, rfl, rfl⟩
      have hnew : diffs 0 (xs.take (i + 1)) = diffs 0 (xs.take i) ++ [D] := by rw [hstep, diffs_snoc, hD1.out, ha.out]
      have hend : Hid (x.th = endOf 0 (xs.take (i + 1))) := by show _ = _; rw [hstep, endOf_snoc]
      have HN := Lib.hid hnew
      have HBr := Lib.hid hBr
      have HO := Lib.hid hO
      have HML := Lib.hid hml
      have HDL := Lib.hid hdl
      have hpk := pick_0 x hxop
      clear hnew hstep hXi hbox hBr hO hml hdl hrl hx hxok
      go_wp2_with fail
      refine (hpk _).mono ?_
      rintro e w1 ⟨rfl, hb1⟩
      have hB1 := bstep0 ((Below.refl _ wr).alloc (Nat.le_refl _) _) hb1
      have hsz1 := hB1.size
      have hO1 := HO.out.below hB1
      have HBr1 := Lib.hid (HBr.out.trans (hB1.mono hsz))
      clear hb1 hB1 x0 x1 x2 x3 x4 hf0 HO hpk hlt
      by_cases hm0 : m = 0
      · have hL : (m : Int) - 1 = -1 := by omega
        have hdL : decide ((0 : Int) ≤ -1) = false := by decide
        obtain ⟨w2, hw2⟩ : ∃ w2, Hid (w2 = w1.alloc (.cells #[.int .i64 D, .int .u64 1] 156)) := ⟨_, rfl⟩
        have hb2 : Below w1.heap.size w1 (w1.alloc (.cells #[.int .i64 D, .int .u64 1] 156)) := (Below.refl _ _).alloc (Nat.le_refl _) _
        obtain ⟨v', w3, hap, A2, c2, rfl, hO3, hA3⟩ := or_append (hO1.below hb2) (Nat.le_trans (Nat.le_trans hsz hsz1) hb2.size) 153 (D, 1) (heap_alloc_new _ _) (by rw [← HML.out]; omega)
        have hB3 := (HBr1.out.trans (hb2.mono (Nat.le_trans hsz hsz1))).trans (hA3.below (B := W.heap.size) (Nat.le_trans (Nat.le_trans hsz hsz1) hb2.size) fun b' hb' => (OwnR.type (hO1.below hb2) hb').choose_spec.2)
        have hrs0 : rs = [] := List.eq_nil_of_length_eq_zero (by rw [← HML.out]; exact hm0)
        have hG3 : Hid (Good (rs ++ [(D, 1)])) := by rw [hrs0]; exact ⟨Nat.le_refl _, trivial, trivial⟩
        have hX3 : Hid (expand (rs ++ [(D, 1)]) = diffs 0 (xs.take (i + 1))) := by show _ = _; rw [expand_new, hX.out, HN.out]
        have HO3 := Lib.hid hO3
        have HB3 := Lib.hid hB3
        clear hO1 hb2 hw2 hO3 hA3 hB3 hrs0 hm0 hD1
        go_wp2_with (at_builtin; refine wpList_run _ rfl (.tmp 48) (.tmp 51) 153 rfl (R := fun v' w' => v' = .slice A2 (m + 1) c2 ∧ w' = w3) ⟨_, _, hap, rfl, rfl⟩ ?_; rintro v' w' ⟨rfl, rfl⟩)
        go_roundw
        case rel => exact ⟨i + 1, A2, m + 1, c2, rs ++ [(D, 1)], x.th, by go_num, by omega, rfl, HO3.out, hG3, hX3, rfl, hend, HB3.out⟩
        case measure => simp [intOf]; omega
      · obtain ⟨M, hM⟩ : ∃ M, Hid (m = M + 1) := ⟨m - 1, by show _ = _; omega⟩
        have hL : (m : Int) - 1 = (M : Int) := by have := hM.out; omega
        have hdL : decide ((0 : Int) ≤ (M : Int)) = true := decide_eq_true (by omega)
        have p0 : (0 : Int) ≤ (M : Int) := by omega
        have p1 : (M : Int) < (m : Int) := by rw [hM.out]; omega
        have p2 : M < m := by rw [hM.out]; omega
        obtain ⟨rs', ⟨s, k⟩, hrs⟩ : ∃ rs' r, rs = rs' ++ [r] := by
          rcases List.eq_nil_or_concat rs with h | ⟨rs', r, h⟩
          · rw [h] at HML; exact absurd HML.out (by show m ≠ 0; exact hm0)
          · exact ⟨rs', r, by rw [h, List.concat_eq_append]⟩
        subst hrs
        have hMl : rs'.length = M := by have h1 := HML.out; have h2 := hM.out; rw [List.length_append] at h1; simp at h1; omega
        have hMs : (rs' ++ [(s, k)])[M]? = some (s, k) := by rw [← hMl, List.getElem?_append_right (Nat.le_refl _), Nat.sub_self]; rfl
        obtain ⟨g, rfl, y0, y1, cs, hgc⟩ := hO1.at_ hMs
        have hcap2 := hO1.len.2
        have yf := free_of_row hgc (M * 2 + 1)
        have hkb : k ≤ 1048576 := by
          have h1 := HDL.out
          rw [expand_append, List.length_append] at h1
          have h2 : (expand [(s, k)]).length = k := by show (List.replicate k s ++ []).length = k; rw [List.append_nil, List.length_replicate]
          omega
        have HMl := Lib.hid hMl
        by_cases hsD : s = D
        · have hsd : (s == D) = true := by rw [hsD]; simp
          have hw : IntKind.u64.wrap ((k : Int) + 1) = (k : Int) + 1 := by rw [IntKind.wrap_u64]; omega
          have hO3 := or_put hO1 ((k : Int) + 1) (by omega)
          rw [hMl] at hO3
          have hA3 := Away.setCell w1 ⟨g, M * 2 + 1, none⟩ (.int .u64 ((k : Int) + 1))
          have hB3 := HBr1.out.trans (hA3.below (B := W.heap.size) (Nat.le_trans hsz hsz1) fun b' hb' => by
            subst hb'
            exact (hO1.type rfl).choose_spec.2)
          have hG3 : Hid (Good (rs' ++ [(s, k + 1)])) := good_last hG.out
          have hX3 : Hid (expand (rs' ++ [(s, k + 1)]) = diffs 0 (xs.take (i + 1))) := by show _ = _; rw [expand_last, hX.out, HN.out, hsD]
          have HO3 := Lib.hid hO3
          have HB3 := Lib.hid hB3
          clear hO1 hgc hO3 hA3 hB3 hMs hMl hm0 hD1 hsD
          go_wp2_with fail
          go_roundw
          case rel => exact ⟨i + 1, some ⟨g, 0, none⟩, m, cp, rs' ++ [(s, k + 1)], x.th, by go_num, by omega, rfl, HO3.out, hG3, hX3, rfl, hend, HB3.out⟩
          case measure => simp [intOf]; omega
        · have hsd : (s == D) = false := beq_eq_false_iff_ne.2 hsD
          have hb2 : Below w1.heap.size w1 (w1.alloc (.cells #[.int .i64 D, .int .u64 1] 156)) := (Below.refl _ _).alloc (Nat.le_refl _) _
          obtain ⟨v', w3, hap, A2, c2, rfl, hO3, hA3⟩ := or_append (hO1.below hb2) (Nat.le_trans (Nat.le_trans hsz hsz1) hb2.size) 153 (D, 1) (heap_alloc_new _ _) (by rw [← HML.out]; omega)
          have hB3 := (HBr1.out.trans (hb2.mono (Nat.le_trans hsz hsz1))).trans (hA3.below (B := W.heap.size) (Nat.le_trans (Nat.le_trans hsz hsz1) hb2.size) fun b' hb' => (OwnR.type (hO1.below hb2) hb').choose_spec.2)
          have hG3 : Hid (Good ((rs' ++ [(s, k)]) ++ [(D, 1)])) := good_new hG.out fun r hr => by
            rw [List.getLast?_concat] at hr
            rw [← Option.some.inj hr]
            exact hsD
          have hX3 : Hid (expand ((rs' ++ [(s, k)]) ++ [(D, 1)]) = diffs 0 (xs.take (i + 1))) := by show _ = _; rw [expand_new, hX.out, HN.out]
          have HO3 := Lib.hid hO3
          have HB3 := Lib.hid hB3
          clear hO1 hb2 hgc hO3 hA3 hB3 hMs hMl hm0 hD1 hsD
          go_wp2_with (at_builtin; refine wpList_run _ rfl (.tmp 48) (.tmp 51) 153 rfl (R := fun v' w' => v' = .slice A2 (m + 1) c2 ∧ w' = w3) ⟨_, _, hap, rfl, rfl⟩ ?_; rintro v' w' ⟨rfl, rfl⟩)
          go_roundw
          case rel => exact ⟨i + 1, A2, m + 1, c2, (rs' ++ [(s, k)]) ++ [(D, 1)], x.th, by go_num, by omega, rfl, HO3.out, hG3, hX3, rfl, hend, HB3.out⟩
          case measure => simp [intOf]; omega
    · obtain rfl : n = i := by omega
      have hd : decide ((n : Int) < (n : Int)) = false := by simp
      have hrs : rs = runsOf (diffs 0 xs) := by
        rw [← runsOf_expand rs hG.out, hX.out, List.take_of_length_le (by rw [HXL.out]; exact Nat.le_refl _)]
      have HRS := Lib.hid hrs
      have hB := HBX.out.trans (hBr.mono (by rw [HBS.out]; omega))
      have hO' := hO.mono (base' := w.heap.size) (by rw [HBS.out]; omega)
      clear hrs hO hBr
      go_wp2_with fail
      go_ret
      exact ⟨⟨_, _, _, rfl, by rw [← HRS.out]; exact hO'⟩, hB⟩

set_option maxRecDepth 100000 in
set_option maxHeartbeats 2000000 in
theorem put_0 {w : World} {A : Option Addr} {n c : Nat} {es : List Ev} {r : Raw} {A0 : Option Addr} {m0 c0 : Nat} (h : IsEv w A n c es) (hn : n ≤ 1048576) (hok : ∀ x ∈ es, x.ok) (hr : FRow w r) (hA0 : r.sl = .slice A0 m0 c0) (hm0 : r.c.1.length ≤ 200000000) :
    Calls Try.prog 90 #[.agg #[fnV 110, fnV 111], .slice A0 m0 c0, .slice A n c] w fun e w' => (∃ r' : Raw, e = .returned r'.sl ∧ FRow w' r' ∧ r'.c = (r.c.1 ++ numsBytes (es.map (colGet 0)), r.c.2) ∧ (r'.g = r.g ∨ ∃ b, r'.g = some b ∧ w.heap.size ≤ b)) ∧ Away (fun b => r.g = some b) w w' := by
  have hbox : Below w.heap.size w (w.alloc (.cells #[fnV 110, fnV 111] 133)) := (Below.refl _ _).alloc (Nat.le_refl _) _
  have hrn := runs_0 (h.below hbox) hn hok
  have hxl : (diffs 0 (es.map (colGet 0))).length = n := by rw [diffs_length, List.length_map]; exact h.len
  have hgood := good_runs (diffs 0 (es.map (colGet 0)))
  have hexp := expand_runs (diffs 0 (es.map (colGet 0)))
  have hdin := diffs_in (es.map (colGet 0)) 0
  unfold numsBytes
  generalize runsOf (diffs 0 (es.map (colGet 0))) = rs at hrn hgood hexp ⊢
  have hrm : ∀ x ∈ rs, In64 x.1 ∧ x.2 ≤ 1048576 := fun x hx => by
    have h1 := good_mem hgood hx
    rw [hexp] at h1
    exact ⟨hdin _ h1.1, by omega⟩
  have hrl : rs.length ≤ 1048576 := by
    have := runs_le hgood
    rw [hexp, hxl] at this
    omega
  have HRM := Lib.hid hrm
  have HRN := Lib.hid hrn
  have HRL := Lib.hid hrl
  have HA0 := Lib.hid hA0
  have HR := Lib.hid (hr.away (Away.of_new hbox (fun _ => False)) fun _ _ f => f)
  have HBX := Lib.hid hbox
  clear h hok hrn hxl hgood hexp hdin hrm hbox hA0 hr hrl
  go_enter Try.func90, Try.ntmps90
  go_wp2_with fail
  refine HRN.out.mono ?_
  rintro e W ⟨⟨A', N, cp, rfl, hO⟩, hbW⟩
  have hN := hO.len.1
  have hNc := hO.len.2
  have hBW := HBX.out.trans (hbW.mono HBX.out.size)
  have hrW := HR.out.away (Away.of_new hbW (fun _ => False)) fun _ _ f => f
  have HN := Lib.hid hN
  have hN1 : N ≤ 1048576 := by rw [HN.out]; exact HRL.out
  have HBW := Lib.hid hBW
  have HO := Lib.hid hO
  have HRW := Lib.hid hrW
  clear hbW hBW hrW hO hN HRN
  go_wp2_with fail
  go_loopw [1, 13] (fun out q wr => ∃ (i : Nat) (r' : Raw) (A1 : Option Addr) (m1 c1 : Nat), q = .int .i64 (i : Int) ∧ i ≤ N ∧ out = .slice A1 m1 c1 ∧ Hid (r'.sl = .slice A1 m1 c1) ∧ FRow wr r' ∧ Hid (r'.c = (r.c.1 ++ encRuns (rs.take i), r.c.2)) ∧ Hid (r'.g = r.g ∨ ∃ b, r'.g = some b ∧ W.heap.size ≤ b) ∧ Away (fun b => r.g = some b) W wr)
    (fun _ q _ => N - (intOf q).toNat)
  case atStart => exact ⟨0, r, A0, m0, c0, rfl, Nat.zero_le _, rfl, HA0.out, HRW.out, by show _ = _; simp [encRuns], .inl rfl, Away.refl _ _⟩
  case round =>
    obtain ⟨i, r', A1, m1, c1, rfl, hin, rfl, hsl, hr1, hrc, hrg, hAw⟩ := hrel
    have hOr : OwnR wr (w.alloc (.cells #[fnV 110, fnV 111] 133)).heap.size (.slice A' N cp) rs := HO.out.away hAw fun b hb hg => by
      obtain ⟨cs, hcs, _⟩ := HO.out.type hb
      obtain ⟨cs', hcs'⟩ := row_type HRW.out hg
      rw [hcs] at hcs'; simp at hcs'
    by_cases hi : i < N
    · obtain ⟨⟨s, k⟩, hsk⟩ : ∃ x, rs[i]? = some x := ⟨_, List.getElem?_eq_getElem (by rw [← HN.out]; exact hi)⟩
      obtain ⟨g, rfl, y0, y1, cs, hgc⟩ := hOr.at_ hsk
      have hd : decide ((i : Int) < (N : Int)) = true := decide_eq_true (by omega)
      have q0 : (0 : Int) ≤ (i : Int) := by omega
      have q1 : (i : Int) < (N : Int) := by omega
      obtain ⟨hs64, hk⟩ := HRM.out _ (List.mem_of_getElem? hsk)
      have hs64 : In64 s := hs64
      have hk : k ≤ 1048576 := hk
      have hstep : Hid (encRuns (rs.take (i + 1)) = encRuns (rs.take i) ++ (svar s ++ uvarint k)) := by
        show _ = _
        rw [take_one hsk, encRuns_append]
        show _ ++ ((svar s ++ uvarint k) ++ []) = _
        rw [List.append_nil]
      have hlen : r'.c.1.length ≤ 221000000 := by
        rw [hrc.out]
        show (r.c.1 ++ encRuns (rs.take i)).length ≤ _
        rw [List.length_append]
        have := encRuns_most (rs.take i) fun x hx => by
          have := HRM.out x (List.mem_of_mem_take hx)
          exact ⟨this.1, by omega⟩
        rw [List.length_take] at this
        omega
      have hz := hAw.size
      have HA := Lib.hid hAw
      have HR1 := Lib.hid hr1
      clear hOr hsk hgc hAw hr1
      go_wp2_with fail
      have hbz : (wr.alloc (.cells #[.int .i64 s, .int .u64 (k : Int)] 156)).heap.size = wr.heap.size + 1 := Array.size_push _
      have hblk : (wr.alloc (.cells #[.int .i64 s, .int .u64 (k : Int)] 156)).heap[wr.heap.size]? = some (.cells #[.int .i64 s, .int .u64 (k : Int)] 156 (0, 0)) := heap_alloc_new _ _
      have hbk : Below wr.heap.size wr (wr.alloc (.cells #[.int .i64 s, .int .u64 (k : Int)] 156)) := (Below.refl _ _).alloc (Nat.le_refl _) _
      have HR2 := Lib.hid (HR1.out.away (Away.of_new hbk (fun _ => False)) fun _ _ f => f)
      generalize wr.alloc (.cells #[.int .i64 s, .int .u64 (k : Int)] 156) = wk at hbz hblk hbk HR2 ⊢
      have HBK := Lib.hid hbk
      have HBLK := Lib.hid hblk
      have hkl := (Array.getElem?_eq_some_iff.1 hblk).1
      clear hbk y0 y1
      refine wp_region_held_drew (S := fun w' => w'.cell? ⟨wr.heap.size, 0, none⟩ = some (.int .i64 s) ∧ w'.cell? ⟨wr.heap.size, 1, none⟩ = some (.int .u64 (k : Int))) (by kernel_rfl) ⟨cell_of_row wk _ 0 _ _ _ hblk, cell_of_row wk _ 1 _ _ _ hblk⟩ (fun hHeld => ?_)
      refine wpAnyH_take (i := 0) (v := ?_) rfl (by kernel_rfl) (by kernel_rfl) (by kernel_rfl) (fun _ _ _ h => h) (Or.inl ⟨by rfl, ?_⟩) hHeld ?_
      rotate_left
      · (intro w hSw; obtain ⟨hs0, hs1⟩ := hSw; go_simp <;> rfl)
      simp only [Act.put, List.getElem_toArray, List.getElem_cons_zero, List.getElem_cons_succ, List.setIfInBounds_toArray, List.set_cons_zero, List.set_cons_succ]
      refine wpAnyH_take (i := 1) (v := ?_) rfl (by kernel_rfl) (by kernel_rfl) (by kernel_rfl) (fun _ _ _ h => h) (Or.inl ⟨by rfl, ?_⟩) hHeld ?_
      rotate_left
      · (intro w hSw; obtain ⟨hs0, hs1⟩ := hSw; go_simp <;> rfl)
      simp only [Act.put, List.getElem_toArray, List.getElem_cons_zero, List.getElem_cons_succ, List.setIfInBounds_toArray, List.set_cons_zero, List.set_cons_succ]
      refine wpAnyH_take (i := 2) (v := ?_) rfl (by kernel_rfl) (by kernel_rfl) (by kernel_rfl) (fun _ _ _ h => h) (Or.inl ⟨by rfl, ?_⟩) hHeld ?_
      rotate_left
      · (intro w hSw; obtain ⟨hs0, hs1⟩ := hSw; go_simp <;> rfl)
      simp only [Act.put, List.getElem_toArray, List.getElem_cons_zero, List.getElem_cons_succ, List.setIfInBounds_toArray, List.set_cons_zero, List.set_cons_succ]
      refine wpAnyH_take (i := 4) (v := ?_) rfl (by kernel_rfl) (by kernel_rfl) (by kernel_rfl) (fun _ _ _ h => h) (Or.inl ⟨by rfl, ?_⟩) hHeld ?_
      rotate_left
      · (intro w hSw; obtain ⟨hs0, hs1⟩ := hSw; go_simp <;> rfl)
      simp only [Act.put, List.getElem_toArray, List.getElem_cons_zero, List.getElem_cons_succ, List.setIfInBounds_toArray, List.set_cons_zero, List.set_cons_succ]
      refine wpAnyH_take (i := 5) (v := ?_) rfl (by kernel_rfl) (by kernel_rfl) (by kernel_rfl) (fun _ _ _ h => h) (Or.inl ⟨by rfl, ?_⟩) hHeld ?_
      rotate_left
      · (intro w hSw; obtain ⟨hs0, hs1⟩ := hSw; go_simp <;> rfl)
      simp only [Act.put, List.getElem_toArray, List.getElem_cons_zero, List.getElem_cons_succ, List.setIfInBounds_toArray, List.set_cons_zero, List.set_cons_succ]
      refine wpAnyH_ready (rs := [3]) (by kernel_rfl) (by simp) ?_
      refine AllReadyH.cons rfl (fun K hK => ?_) AllReadyH.nil
      go_simp
      refine (int_any none 0 0 s [] _ (IsB.nil _) (by omega) hs64.1 hs64.2).mono ?_
      rintro e w2 ⟨v, rfl, ho, hb2⟩
      rw [List.nil_append] at ho
      obtain ⟨B, mb, cb, rfl, hI⟩ := own_slice ho
      have hb2' : Below wk.heap.size wk w2 := bstep0 ((Below.refl _ wk).drew) hb2
      have h2 := (hb2'.block _ hkl).trans HBLK.out
      have HI := Lib.hid hI
      have HB2 := Lib.hid hb2'
      have hmb := hI.len
      have hsv : (svar s).length ≤ 10 := svar_most hs64
      unfold svar at hsv
      clear hb2 ho hI hb2'
      dsimp only
      refine hK.out _ _ ⟨cell_of_row w2 _ 0 _ _ _ h2, cell_of_row w2 _ 1 _ _ _ h2⟩ (fun hHeld => ?_)
      clear hK K
      try simp only [Act.put, List.getElem_toArray, List.getElem_cons_zero, List.getElem_cons_succ, List.setIfInBounds_toArray, List.set_cons_zero, List.set_cons_succ]
      refine wpAnyH_ready (rs := [6]) (by kernel_rfl) (by simp) ?_
      refine AllReadyH.cons rfl (fun K hK => ?_) AllReadyH.nil
      go_simp
      refine (uint_any B mb cb k _ w2 HI.out (by omega) (by omega)).mono ?_
      rintro e w3 ⟨v, rfl, ho, hb3⟩
      obtain ⟨B3, mb3, cb3, rfl, hI3⟩ := own_slice ho
      have hz2 := HB2.out.size
      have hB3 : Below wk.heap.size wk w3 := HB2.out.trans (hb3.mono hz2)
      have h3 := (hB3.block _ hkl).trans HBLK.out
      have hr3 := HR2.out.away (Away.of_new hB3 (fun _ => False)) fun _ _ f => f
      have hmb3 := hI3.len
      rw [List.length_append] at hmb3
      have hkv := Lib.uvarint_length64 (x := k) (by omega)
      obtain ⟨v', w4, hap, gg, cap, rfl, hrow, hg, hgr⟩ := rowB hr3 hI3 (by omega) A1 m1 c1 hsl.out 26
      have hag := Away.of_grown hgr
      have hne : ∀ b, r'.g = some b → b ≠ wr.heap.size := fun b hb e => by
        subst e
        obtain ⟨cs', hcs'⟩ := row_type hr3 hb
        rw [h3] at hcs'; simp at hcs'
      have h4 := (hag.block _ (Array.getElem?_eq_some_iff.1 h3).1 (fun e => hne _ e rfl)).trans h3
      have HB3 := Lib.hid hB3
      have HROW := Lib.hid hrow
      have HG := Lib.hid hg
      have HAG := Lib.hid hag
      have HM3 := Lib.hid hmb3
      clear hb3 ho hI3 hr3 hrow hgr hg hag hmb3 hB3
      dsimp only
      refine hK.out _ _ ⟨cell_of_row w3 _ 0 _ _ _ h3, cell_of_row w3 _ 1 _ _ _ h3⟩ (fun hHeld => ?_)
      clear hK K
      try simp only [Act.put, List.getElem_toArray, List.getElem_cons_zero, List.getElem_cons_succ, List.setIfInBounds_toArray, List.set_cons_zero, List.set_cons_succ]
      refine wpAnyH_ready (rs := [7]) (by kernel_rfl) (by simp) ?_
      refine AllReadyH.cons rfl (fun K hK => ?_) AllReadyH.nil
      refine step_run (by simp [Region.wanted]) _ _ 26 rfl (R := fun v' w' => v' = .slice (gg.map fun b => ⟨b, 0, none⟩) (m1 + mb3) cap ∧ w' = w4) ⟨_, _, hap, rfl, rfl⟩ ?_
      rintro v' w' ⟨rfl, rfl⟩
      refine hK.out _ _ ⟨cell_of_row w' _ 0 _ _ _ h4, cell_of_row w' _ 1 _ _ _ h4⟩ (fun hHeld => ?_)
      clear hK K
      try simp only [Act.put, List.getElem_toArray, List.getElem_cons_zero, List.getElem_cons_succ, List.setIfInBounds_toArray, List.set_cons_zero, List.set_cons_succ]
      refine wpAnyH_ready (rs := [8]) (by kernel_rfl) (by simp) ?_
      refine AllReadyH.cons rfl (fun K hK => ?_) AllReadyH.nil
      go_simp
      refine hK.out _ _ ⟨cell_of_row w' _ 0 _ _ _ h4, cell_of_row w' _ 1 _ _ _ h4⟩ (fun hHeld => ?_)
      clear hK K
      try simp only [Act.put, List.getElem_toArray, List.getElem_cons_zero, List.getElem_cons_succ, List.setIfInBounds_toArray, List.set_cons_zero, List.set_cons_succ]
      refine wpAnyH_done (by kernel_rfl) ?_ _
      have hm1 : m1 = r'.c.1.length := sl_same hsl.out
      have hsl2 : Hid (Raw.sl ⟨gg, cap, (r'.c.1 ++ (uvarint (Lib.zigzag s) ++ uvarint k), r'.c.2)⟩ = .slice (gg.map fun b => ⟨b, 0, none⟩) (m1 + mb3) cap) := by
        show _ = _
        unfold Raw.sl
        rw [List.length_append, List.length_append, HM3.out, ← hm1]
      have hrc2 : Hid ((⟨gg, cap, (r'.c.1 ++ (uvarint (Lib.zigzag s) ++ uvarint k), r'.c.2)⟩ : Raw).c = (r.c.1 ++ encRuns (rs.take (i + 1)), r.c.2)) := by
        show _ = _
        rw [hstep.out]
        show (r'.c.1 ++ _, r'.c.2) = _
        rw [hrc.out]
        simp only [List.append_assoc]
        rfl
      have hg2 : Hid ((⟨gg, cap, (r'.c.1 ++ (uvarint (Lib.zigzag s) ++ uvarint k), r'.c.2)⟩ : Raw).g = r.g ∨ ∃ b, (⟨gg, cap, (r'.c.1 ++ (uvarint (Lib.zigzag s) ++ uvarint k), r'.c.2)⟩ : Raw).g = some b ∧ W.heap.size ≤ b) := by
        rcases HG.out with e | e
        · rcases hrg.out with e1 | ⟨b, e1, e2⟩
          · exact .inl (e.trans e1)
          · exact .inr ⟨b, e.trans e1, e2⟩
        · exact .inr ⟨_, e, Nat.le_trans hz (Nat.le_trans HBK.out.size HB3.out.size)⟩
      have hAw2 : Away (fun b => r.g = some b) W w' := by
        have h5 := (HA.out.trans (Away.of_new HBK.out (fun b => r.g = some b)) fun b e => .inl e).trans (Away.of_new HB3.out (fun b => r.g = some b)) fun b e => .inl e
        refine h5.trans HAG.out fun b e => ?_
        rcases hrg.out with e1 | ⟨b', e1, e2⟩
        · exact .inl (e1 ▸ e)
        · rw [e1] at e; injection e with e; subst e; exact .inr e2
      have HROW' := HROW.out
      have HA2 := Lib.hid hAw2
      clear hm1 hAw2 h2 h3 h4 hne hap HAG HG
      go_wp2_with fail
      go_roundw
      case rel => exact ⟨i + 1, ⟨gg, cap, (r'.c.1 ++ (uvarint (Lib.zigzag s) ++ uvarint k), r'.c.2)⟩, _, _, _, by go_num, by omega, rfl, hsl2, HROW', hrc2, hg2, HA2.out⟩
      case measure => simp [intOf]; omega
    · obtain rfl : N = i := by omega
      have hd : decide ((N : Int) < (N : Int)) = false := by simp
      have HA := Lib.hid hAw
      have HR1 := Lib.hid hr1
      clear hOr hAw hr1
      go_wp2_with fail
      go_ret
      refine ⟨⟨r', ?_, HR1.out, ?_, ?_⟩, ?_⟩
      · rw [hsl.out]; rfl
      · rw [hrc.out, List.take_of_length_le (by rw [HN.out]; exact Nat.le_refl _)]
      · rcases hrg.out with e | ⟨b, e, e2⟩
        · exact .inl e
        · exact .inr ⟨b, e, Nat.le_trans HBW.out.size e2⟩
      · exact (Away.of_new HBW.out (fun b => r.g = some b)).trans HA.out fun b e => .inl e

set_option maxRecDepth 100000 in
set_option maxHeartbeats 2000000 in
theorem runs_1 {w : World} {A : Option Addr} {n c : Nat} {es : List Ev} (h : IsEv w A n c es) (hn : n ≤ 1048576) (hok : ∀ x ∈ es, x.ok) :
    Calls Try.prog 120 #[.agg #[fnV 112, fnV 113], .slice A n c] w fun e w' => (∃ A' m cp, e = .returned (.slice A' m cp) ∧ OwnR w' w.heap.size (.slice A' m cp) (runsOf (diffs 0 (es.map (colGet 1))))) ∧ Below w.heap.size w w' := by
  obtain ⟨xs, hxs⟩ : ∃ xs, Hid (es.map (colGet 1) = xs) := ⟨_, rfl⟩
  rw [hxs.out]
  have HXL : Hid (xs.length = n) := by show _ = _; rw [← hxs.out, List.length_map]; exact h.len
  have hbox : Below w.heap.size w (w.alloc (.cells #[fnV 112, fnV 113] 133)) := (Below.refl _ _).alloc (Nat.le_refl _) _
  have hbs : (w.alloc (.cells #[fnV 112, fnV 113] 133)).heap.size = w.heap.size + 1 := Array.size_push _
  have hbc : (w.alloc (.cells #[fnV 112, fnV 113] 133)).heap[w.heap.size]? = some (.cells #[fnV 112, fnV 113] 133 (0, 0)) := heap_alloc_new _ _
  have hE := h.below hbox
  have HOK := Lib.hid hok
  clear h hok
  go_enter Try.func120, Try.ntmps120
  go_wp2_with fail
  generalize w.alloc (.cells #[fnV 112, fnV 113] 133) = W at hbox hbs hbc hE ⊢
  have HBX := Lib.hid hbox
  have HBS := Lib.hid hbs
  have HBC := Lib.hid hbc
  have HE := Lib.hid hE
  clear hbox hbs hbc hE
  go_loopw [5, 6, 14] (fun out ah q wr => ∃ (i : Nat) (A' : Option Addr) (m cp : Nat) (rs : List Run) (a : Int), q = .int .i64 (i : Int) ∧ i ≤ n ∧ out = .slice A' m cp ∧ OwnR wr W.heap.size (.slice A' m cp) rs ∧ Hid (Good rs) ∧ Hid (expand rs = diffs 0 (xs.take i)) ∧ ah = .int .i64 a ∧ Hid (a = endOf 0 (xs.take i)) ∧ Below W.heap.size W wr)
    (fun _ _ q _ => n - (intOf q).toNat)
  case atStart => exact ⟨0, none, 0, 0, [], 0, rfl, Nat.zero_le _, rfl, OwnR.nil _ _, trivial, rfl, rfl, rfl, Below.refl _ _⟩
  case round =>
    obtain ⟨i, A', m, cp, rs, a, rfl, hin, rfl, hO, hG, hX, rfl, ha, hBr⟩ := hrel
    by_cases hi : i < n
    · obtain ⟨b, o, x, rfl, hx, x0, x1, x2, x3, x4⟩ := (HE.out.below hBr).at_ hi
      have hcap := HE.out.cap
      have hxok := HOK.out x (List.mem_of_getElem? hx)
      have hxop := hxok.op
      have hXi : xs[i]? = some (x.op : Int) := by rw [← hxs.out, List.getElem?_map, hx]; rfl
      have hXi64 : In64 (x.op : Int) := colGet_in hxok 1
      have hd : decide ((i : Int) < (n : Int)) = true := decide_eq_true (by omega)
      have q0 : (0 : Int) ≤ (i : Int) := by omega
      have q1 : (i : Int) < (n : Int) := by omega
      have hsz := hBr.size
      have hbox : wr.heap[w.heap.size]? = some (.cells #[fnV 112, fnV 113] 133 (0, 0)) := (hBr.block _ (by rw [HBS.out]; omega)).trans HBC.out
      have hf0 : wr.cell? ⟨w.heap.size, 0, none⟩ = some (fnV 112) := cell_of_row _ _ 0 _ _ _ hbox
      have hlt := (Array.getElem?_eq_some_iff.1 hbox).1
      have hml := hO.len.1
      have hstep : xs.take (i + 1) = xs.take i ++ [(x.op : Int)] := take_one hXi
      have hdl : (expand rs).length = i := by rw [hX.out, diffs_length, List.length_take, HXL.out]; omega
      have hrl := runs_le hG.out
      have hmi : m ≤ i := by omega
      obtain ⟨D, hD1, hD⟩ : ∃ D : Int, Hid (D = dif a (x.op : Int)) ∧ wrap64 ((x.op : Int) - a) = D := ⟨_, rfl, rfl⟩
      have hnew : diffs 0 (xs.take (i + 1)) = diffs 0 (xs.take i) ++ [D] := by rw [hstep, diffs_snoc, hD1.out, ha.out]
      have hend : Hid ((x.op : Int) = endOf 0 (xs.take (i + 1))) := by show _ = _; rw [hstep, endOf_snoc]
      have HN := Lib.hid hnew
      have HBr := Lib.hid hBr
      have HO := Lib.hid hO
      have HML := Lib.hid hml
      have HDL := Lib.hid hdl
      have hpk := pick_1 x hxop
      clear hnew hstep hXi hbox hBr hO hml hdl hrl hx hxok
      go_wp2_with fail
      refine (hpk _).mono ?_
      rintro e w1 ⟨rfl, hb1⟩
      have hB1 := bstep0 ((Below.refl _ wr).alloc (Nat.le_refl _) _) hb1
      have hsz1 := hB1.size
      have hO1 := HO.out.below hB1
      have HBr1 := Lib.hid (HBr.out.trans (hB1.mono hsz))
      clear hb1 hB1 x0 x1 x2 x3 x4 hf0 HO hpk hlt
      by_cases hm0 : m = 0
      · have hL : (m : Int) - 1 = -1 := by omega
        have hdL : decide ((0 : Int) ≤ -1) = false := by decide
        obtain ⟨w2, hw2⟩ : ∃ w2, Hid (w2 = w1.alloc (.cells #[.int .i64 D, .int .u64 1] 156)) := ⟨_, rfl⟩
        have hb2 : Below w1.heap.size w1 (w1.alloc (.cells #[.int .i64 D, .int .u64 1] 156)) := (Below.refl _ _).alloc (Nat.le_refl _) _
        obtain ⟨v', w3, hap, A2, c2, rfl, hO3, hA3⟩ := or_append (hO1.below hb2) (Nat.le_trans (Nat.le_trans hsz hsz1) hb2.size) 153 (D, 1) (heap_alloc_new _ _) (by rw [← HML.out]; omega)
        have hB3 := (HBr1.out.trans (hb2.mono (Nat.le_trans hsz hsz1))).trans (hA3.below (B := W.heap.size) (Nat.le_trans (Nat.le_trans hsz hsz1) hb2.size) fun b' hb' => (OwnR.type (hO1.below hb2) hb').choose_spec.2)
        have hrs0 : rs = [] := List.eq_nil_of_length_eq_zero (by rw [← HML.out]; exact hm0)
        have hG3 : Hid (Good (rs ++ [(D, 1)])) := by rw [hrs0]; exact ⟨Nat.le_refl _, trivial, trivial⟩
        have hX3 : Hid (expand (rs ++ [(D, 1)]) = diffs 0 (xs.take (i + 1))) := by show _ = _; rw [expand_new, hX.out, HN.out]
        have HO3 := Lib.hid hO3
        have HB3 := Lib.hid hB3
        clear hO1 hb2 hw2 hO3 hA3 hB3 hrs0 hm0 hD1
        go_wp2_with (at_builtin; refine wpList_run _ rfl (.tmp 48) (.tmp 51) 153 rfl (R := fun v' w' => v' = .slice A2 (m + 1) c2 ∧ w' = w3) ⟨_, _, hap, rfl, rfl⟩ ?_; rintro v' w' ⟨rfl, rfl⟩)
        go_roundw
        case rel => exact ⟨i + 1, A2, m + 1, c2, rs ++ [(D, 1)], (x.op : Int), by go_num, by omega, rfl, HO3.out, hG3, hX3, rfl, hend, HB3.out⟩
        case measure => simp [intOf]; omega
      · obtain ⟨M, hM⟩ : ∃ M, Hid (m = M + 1) := ⟨m - 1, by show _ = _; omega⟩
        have hL : (m : Int) - 1 = (M : Int) := by have := hM.out; omega
        have hdL : decide ((0 : Int) ≤ (M : Int)) = true := decide_eq_true (by omega)
        have p0 : (0 : Int) ≤ (M : Int) := by omega
        have p1 : (M : Int) < (m : Int) := by rw [hM.out]; omega
        have p2 : M < m := by rw [hM.out]; omega
        obtain ⟨rs', ⟨s, k⟩, hrs⟩ : ∃ rs' r, rs = rs' ++ [r] := by
          rcases List.eq_nil_or_concat rs with h | ⟨rs', r, h⟩
          · rw [h] at HML; exact absurd HML.out (by show m ≠ 0; exact hm0)
          · exact ⟨rs', r, by rw [h, List.concat_eq_append]⟩
        subst hrs
        have hMl : rs'.length = M := by have h1 := HML.out; have h2 := hM.out; rw [List.length_append] at h1; simp at h1; omega
        have hMs : (rs' ++ [(s, k)])[M]? = some (s, k) := by rw [← hMl, List.getElem?_append_right (Nat.le_refl _), Nat.sub_self]; rfl
        obtain ⟨g, rfl, y0, y1, cs, hgc⟩ := hO1.at_ hMs
        have hcap2 := hO1.len.2
        have yf := free_of_row hgc (M * 2 + 1)
        have hkb : k ≤ 1048576 := by
          have h1 := HDL.out
          rw [expand_append, List.length_append] at h1
          have h2 : (expand [(s, k)]).length = k := by show (List.replicate k s ++ []).length = k; rw [List.append_nil, List.length_replicate]
          omega
        have HMl := Lib.hid hMl
        by_cases hsD : s = D
        · have hsd : (s == D) = true := by rw [hsD]; simp
          have hw : IntKind.u64.wrap ((k : Int) + 1) = (k : Int) + 1 := by rw [IntKind.wrap_u64]; omega
          have hO3 := or_put hO1 ((k : Int) + 1) (by omega)
          rw [hMl] at hO3
          have hA3 := Away.setCell w1 ⟨g, M * 2 + 1, none⟩ (.int .u64 ((k : Int) + 1))
          have hB3 := HBr1.out.trans (hA3.below (B := W.heap.size) (Nat.le_trans hsz hsz1) fun b' hb' => by
            subst hb'
            exact (hO1.type rfl).choose_spec.2)
          have hG3 : Hid (Good (rs' ++ [(s, k + 1)])) := good_last hG.out
          have hX3 : Hid (expand (rs' ++ [(s, k + 1)]) = diffs 0 (xs.take (i + 1))) := by show _ = _; rw [expand_last, hX.out, HN.out, hsD]
          have HO3 := Lib.hid hO3
          have HB3 := Lib.hid hB3
          clear hO1 hgc hO3 hA3 hB3 hMs hMl hm0 hD1 hsD
          go_wp2_with fail
          go_roundw
          case rel => exact ⟨i + 1, some ⟨g, 0, none⟩, m, cp, rs' ++ [(s, k + 1)], (x.op : Int), by go_num, by omega, rfl, HO3.out, hG3, hX3, rfl, hend, HB3.out⟩
          case measure => simp [intOf]; omega
        · have hsd : (s == D) = false := beq_eq_false_iff_ne.2 hsD
          have hb2 : Below w1.heap.size w1 (w1.alloc (.cells #[.int .i64 D, .int .u64 1] 156)) := (Below.refl _ _).alloc (Nat.le_refl _) _
          obtain ⟨v', w3, hap, A2, c2, rfl, hO3, hA3⟩ := or_append (hO1.below hb2) (Nat.le_trans (Nat.le_trans hsz hsz1) hb2.size) 153 (D, 1) (heap_alloc_new _ _) (by rw [← HML.out]; omega)
          have hB3 := (HBr1.out.trans (hb2.mono (Nat.le_trans hsz hsz1))).trans (hA3.below (B := W.heap.size) (Nat.le_trans (Nat.le_trans hsz hsz1) hb2.size) fun b' hb' => (OwnR.type (hO1.below hb2) hb').choose_spec.2)
          have hG3 : Hid (Good ((rs' ++ [(s, k)]) ++ [(D, 1)])) := good_new hG.out fun r hr => by
            rw [List.getLast?_concat] at hr
            rw [← Option.some.inj hr]
            exact hsD
          have hX3 : Hid (expand ((rs' ++ [(s, k)]) ++ [(D, 1)]) = diffs 0 (xs.take (i + 1))) := by show _ = _; rw [expand_new, hX.out, HN.out]
          have HO3 := Lib.hid hO3
          have HB3 := Lib.hid hB3
          clear hO1 hb2 hgc hO3 hA3 hB3 hMs hMl hm0 hD1 hsD
          go_wp2_with (at_builtin; refine wpList_run _ rfl (.tmp 48) (.tmp 51) 153 rfl (R := fun v' w' => v' = .slice A2 (m + 1) c2 ∧ w' = w3) ⟨_, _, hap, rfl, rfl⟩ ?_; rintro v' w' ⟨rfl, rfl⟩)
          go_roundw
          case rel => exact ⟨i + 1, A2, m + 1, c2, (rs' ++ [(s, k)]) ++ [(D, 1)], (x.op : Int), by go_num, by omega, rfl, HO3.out, hG3, hX3, rfl, hend, HB3.out⟩
          case measure => simp [intOf]; omega
    · obtain rfl : n = i := by omega
      have hd : decide ((n : Int) < (n : Int)) = false := by simp
      have hrs : rs = runsOf (diffs 0 xs) := by
        rw [← runsOf_expand rs hG.out, hX.out, List.take_of_length_le (by rw [HXL.out]; exact Nat.le_refl _)]
      have HRS := Lib.hid hrs
      have hB := HBX.out.trans (hBr.mono (by rw [HBS.out]; omega))
      have hO' := hO.mono (base' := w.heap.size) (by rw [HBS.out]; omega)
      clear hrs hO hBr
      go_wp2_with fail
      go_ret
      exact ⟨⟨_, _, _, rfl, by rw [← HRS.out]; exact hO'⟩, hB⟩

set_option maxRecDepth 100000 in
set_option maxHeartbeats 2000000 in
theorem put_1 {w : World} {A : Option Addr} {n c : Nat} {es : List Ev} {r : Raw} {A0 : Option Addr} {m0 c0 : Nat} (h : IsEv w A n c es) (hn : n ≤ 1048576) (hok : ∀ x ∈ es, x.ok) (hr : FRow w r) (hA0 : r.sl = .slice A0 m0 c0) (hm0 : r.c.1.length ≤ 200000000) :
    Calls Try.prog 90 #[.agg #[fnV 112, fnV 113], .slice A0 m0 c0, .slice A n c] w fun e w' => (∃ r' : Raw, e = .returned r'.sl ∧ FRow w' r' ∧ r'.c = (r.c.1 ++ numsBytes (es.map (colGet 1)), r.c.2) ∧ (r'.g = r.g ∨ ∃ b, r'.g = some b ∧ w.heap.size ≤ b)) ∧ Away (fun b => r.g = some b) w w' := by
  have hbox : Below w.heap.size w (w.alloc (.cells #[fnV 112, fnV 113] 133)) := (Below.refl _ _).alloc (Nat.le_refl _) _
  have hrn := runs_1 (h.below hbox) hn hok
  have hxl : (diffs 0 (es.map (colGet 1))).length = n := by rw [diffs_length, List.length_map]; exact h.len
  have hgood := good_runs (diffs 0 (es.map (colGet 1)))
  have hexp := expand_runs (diffs 0 (es.map (colGet 1)))
  have hdin := diffs_in (es.map (colGet 1)) 0
  unfold numsBytes
  generalize runsOf (diffs 0 (es.map (colGet 1))) = rs at hrn hgood hexp ⊢
  have hrm : ∀ x ∈ rs, In64 x.1 ∧ x.2 ≤ 1048576 := fun x hx => by
    have h1 := good_mem hgood hx
    rw [hexp] at h1
    exact ⟨hdin _ h1.1, by omega⟩
  have hrl : rs.length ≤ 1048576 := by
    have := runs_le hgood
    rw [hexp, hxl] at this
    omega
  have HRM := Lib.hid hrm
  have HRN := Lib.hid hrn
  have HRL := Lib.hid hrl
  have HA0 := Lib.hid hA0
  have HR := Lib.hid (hr.away (Away.of_new hbox (fun _ => False)) fun _ _ f => f)
  have HBX := Lib.hid hbox
  clear h hok hrn hxl hgood hexp hdin hrm hbox hA0 hr hrl
  go_enter Try.func90, Try.ntmps90
  go_wp2_with fail
  refine HRN.out.mono ?_
  rintro e W ⟨⟨A', N, cp, rfl, hO⟩, hbW⟩
  have hN := hO.len.1
  have hNc := hO.len.2
  have hBW := HBX.out.trans (hbW.mono HBX.out.size)
  have hrW := HR.out.away (Away.of_new hbW (fun _ => False)) fun _ _ f => f
  have HN := Lib.hid hN
  have hN1 : N ≤ 1048576 := by rw [HN.out]; exact HRL.out
  have HBW := Lib.hid hBW
  have HO := Lib.hid hO
  have HRW := Lib.hid hrW
  clear hbW hBW hrW hO hN HRN
  go_wp2_with fail
  go_loopw [1, 13] (fun out q wr => ∃ (i : Nat) (r' : Raw) (A1 : Option Addr) (m1 c1 : Nat), q = .int .i64 (i : Int) ∧ i ≤ N ∧ out = .slice A1 m1 c1 ∧ Hid (r'.sl = .slice A1 m1 c1) ∧ FRow wr r' ∧ Hid (r'.c = (r.c.1 ++ encRuns (rs.take i), r.c.2)) ∧ Hid (r'.g = r.g ∨ ∃ b, r'.g = some b ∧ W.heap.size ≤ b) ∧ Away (fun b => r.g = some b) W wr)
    (fun _ q _ => N - (intOf q).toNat)
  case atStart => exact ⟨0, r, A0, m0, c0, rfl, Nat.zero_le _, rfl, HA0.out, HRW.out, by show _ = _; simp [encRuns], .inl rfl, Away.refl _ _⟩
  case round =>
    obtain ⟨i, r', A1, m1, c1, rfl, hin, rfl, hsl, hr1, hrc, hrg, hAw⟩ := hrel
    have hOr : OwnR wr (w.alloc (.cells #[fnV 112, fnV 113] 133)).heap.size (.slice A' N cp) rs := HO.out.away hAw fun b hb hg => by
      obtain ⟨cs, hcs, _⟩ := HO.out.type hb
      obtain ⟨cs', hcs'⟩ := row_type HRW.out hg
      rw [hcs] at hcs'; simp at hcs'
    by_cases hi : i < N
    · obtain ⟨⟨s, k⟩, hsk⟩ : ∃ x, rs[i]? = some x := ⟨_, List.getElem?_eq_getElem (by rw [← HN.out]; exact hi)⟩
      obtain ⟨g, rfl, y0, y1, cs, hgc⟩ := hOr.at_ hsk
      have hd : decide ((i : Int) < (N : Int)) = true := decide_eq_true (by omega)
      have q0 : (0 : Int) ≤ (i : Int) := by omega
      have q1 : (i : Int) < (N : Int) := by omega
      obtain ⟨hs64, hk⟩ := HRM.out _ (List.mem_of_getElem? hsk)
      have hs64 : In64 s := hs64
      have hk : k ≤ 1048576 := hk
      have hstep : Hid (encRuns (rs.take (i + 1)) = encRuns (rs.take i) ++ (svar s ++ uvarint k)) := by
        show _ = _
        rw [take_one hsk, encRuns_append]
        show _ ++ ((svar s ++ uvarint k) ++ []) = _
        rw [List.append_nil]
      have hlen : r'.c.1.length ≤ 221000000 := by
        rw [hrc.out]
        show (r.c.1 ++ encRuns (rs.take i)).length ≤ _
        rw [List.length_append]
        have := encRuns_most (rs.take i) fun x hx => by
          have := HRM.out x (List.mem_of_mem_take hx)
          exact ⟨this.1, by omega⟩
        rw [List.length_take] at this
        omega
      have hz := hAw.size
      have HA := Lib.hid hAw
      have HR1 := Lib.hid hr1
      clear hOr hsk hgc hAw hr1
      go_wp2_with fail
      have hbz : (wr.alloc (.cells #[.int .i64 s, .int .u64 (k : Int)] 156)).heap.size = wr.heap.size + 1 := Array.size_push _
      have hblk : (wr.alloc (.cells #[.int .i64 s, .int .u64 (k : Int)] 156)).heap[wr.heap.size]? = some (.cells #[.int .i64 s, .int .u64 (k : Int)] 156 (0, 0)) := heap_alloc_new _ _
      have hbk : Below wr.heap.size wr (wr.alloc (.cells #[.int .i64 s, .int .u64 (k : Int)] 156)) := (Below.refl _ _).alloc (Nat.le_refl _) _
      have HR2 := Lib.hid (HR1.out.away (Away.of_new hbk (fun _ => False)) fun _ _ f => f)
      generalize wr.alloc (.cells #[.int .i64 s, .int .u64 (k : Int)] 156) = wk at hbz hblk hbk HR2 ⊢
      have HBK := Lib.hid hbk
      have HBLK := Lib.hid hblk
      have hkl := (Array.getElem?_eq_some_iff.1 hblk).1
      clear hbk y0 y1
      refine wp_region_held_drew (S := fun w' => w'.cell? ⟨wr.heap.size, 0, none⟩ = some (.int .i64 s) ∧ w'.cell? ⟨wr.heap.size, 1, none⟩ = some (.int .u64 (k : Int))) (by kernel_rfl) ⟨cell_of_row wk _ 0 _ _ _ hblk, cell_of_row wk _ 1 _ _ _ hblk⟩ (fun hHeld => ?_)
      refine wpAnyH_take (i := 0) (v := ?_) rfl (by kernel_rfl) (by kernel_rfl) (by kernel_rfl) (fun _ _ _ h => h) (Or.inl ⟨by rfl, ?_⟩) hHeld ?_
      rotate_left
      · (intro w hSw; obtain ⟨hs0, hs1⟩ := hSw; go_simp <;> rfl)
      simp only [Act.put, List.getElem_toArray, List.getElem_cons_zero, List.getElem_cons_succ, List.setIfInBounds_toArray, List.set_cons_zero, List.set_cons_succ]
      refine wpAnyH_take (i := 1) (v := ?_) rfl (by kernel_rfl) (by kernel_rfl) (by kernel_rfl) (fun _ _ _ h => h) (Or.inl ⟨by rfl, ?_⟩) hHeld ?_
      rotate_left
      · (intro w hSw; obtain ⟨hs0, hs1⟩ := hSw; go_simp <;> rfl)
      simp only [Act.put, List.getElem_toArray, List.getElem_cons_zero, List.getElem_cons_succ, List.setIfInBounds_toArray, List.set_cons_zero, List.set_cons_succ]
      refine wpAnyH_take (i := 2) (v := ?_) rfl (by kernel_rfl) (by kernel_rfl) (by kernel_rfl) (fun _ _ _ h => h) (Or.inl ⟨by rfl, ?_⟩) hHeld ?_
      rotate_left
      · (intro w hSw; obtain ⟨hs0, hs1⟩ := hSw; go_simp <;> rfl)
      simp only [Act.put, List.getElem_toArray, List.getElem_cons_zero, List.getElem_cons_succ, List.setIfInBounds_toArray, List.set_cons_zero, List.set_cons_succ]
      refine wpAnyH_take (i := 4) (v := ?_) rfl (by kernel_rfl) (by kernel_rfl) (by kernel_rfl) (fun _ _ _ h => h) (Or.inl ⟨by rfl, ?_⟩) hHeld ?_
      rotate_left
      · (intro w hSw; obtain ⟨hs0, hs1⟩ := hSw; go_simp <;> rfl)
      simp only [Act.put, List.getElem_toArray, List.getElem_cons_zero, List.getElem_cons_succ, List.setIfInBounds_toArray, List.set_cons_zero, List.set_cons_succ]
      refine wpAnyH_take (i := 5) (v := ?_) rfl (by kernel_rfl) (by kernel_rfl) (by kernel_rfl) (fun _ _ _ h => h) (Or.inl ⟨by rfl, ?_⟩) hHeld ?_
      rotate_left
      · (intro w hSw; obtain ⟨hs0, hs1⟩ := hSw; go_simp <;> rfl)
      simp only [Act.put, List.getElem_toArray, List.getElem_cons_zero, List.getElem_cons_succ, List.setIfInBounds_toArray, List.set_cons_zero, List.set_cons_succ]
      refine wpAnyH_ready (rs := [3]) (by kernel_rfl) (by simp) ?_
      refine AllReadyH.cons rfl (fun K hK => ?_) AllReadyH.nil
      go_simp
      refine (int_any none 0 0 s [] _ (IsB.nil _) (by omega) hs64.1 hs64.2).mono ?_
      rintro e w2 ⟨v, rfl, ho, hb2⟩
      rw [List.nil_append] at ho
      obtain ⟨B, mb, cb, rfl, hI⟩ := own_slice ho
      have hb2' : Below wk.heap.size wk w2 := bstep0 ((Below.refl _ wk).drew) hb2
      have h2 := (hb2'.block _ hkl).trans HBLK.out
      have HI := Lib.hid hI
      have HB2 := Lib.hid hb2'
      have hmb := hI.len
      have hsv : (svar s).length ≤ 10 := svar_most hs64
      unfold svar at hsv
      clear hb2 ho hI hb2'
      dsimp only
      refine hK.out _ _ ⟨cell_of_row w2 _ 0 _ _ _ h2, cell_of_row w2 _ 1 _ _ _ h2⟩ (fun hHeld => ?_)
      clear hK K
      try simp only [Act.put, List.getElem_toArray, List.getElem_cons_zero, List.getElem_cons_succ, List.setIfInBounds_toArray, List.set_cons_zero, List.set_cons_succ]
      refine wpAnyH_ready (rs := [6]) (by kernel_rfl) (by simp) ?_
      refine AllReadyH.cons rfl (fun K hK => ?_) AllReadyH.nil
      go_simp
      refine (uint_any B mb cb k _ w2 HI.out (by omega) (by omega)).mono ?_
      rintro e w3 ⟨v, rfl, ho, hb3⟩
      obtain ⟨B3, mb3, cb3, rfl, hI3⟩ := own_slice ho
      have hz2 := HB2.out.size
      have hB3 : Below wk.heap.size wk w3 := HB2.out.trans (hb3.mono hz2)
      have h3 := (hB3.block _ hkl).trans HBLK.out
      have hr3 := HR2.out.away (Away.of_new hB3 (fun _ => False)) fun _ _ f => f
      have hmb3 := hI3.len
      rw [List.length_append] at hmb3
      have hkv := Lib.uvarint_length64 (x := k) (by omega)
      obtain ⟨v', w4, hap, gg, cap, rfl, hrow, hg, hgr⟩ := rowB hr3 hI3 (by omega) A1 m1 c1 hsl.out 26
      have hag := Away.of_grown hgr
      have hne : ∀ b, r'.g = some b → b ≠ wr.heap.size := fun b hb e => by
        subst e
        obtain ⟨cs', hcs'⟩ := row_type hr3 hb
        rw [h3] at hcs'; simp at hcs'
      have h4 := (hag.block _ (Array.getElem?_eq_some_iff.1 h3).1 (fun e => hne _ e rfl)).trans h3
      have HB3 := Lib.hid hB3
      have HROW := Lib.hid hrow
      have HG := Lib.hid hg
      have HAG := Lib.hid hag
      have HM3 := Lib.hid hmb3
      clear hb3 ho hI3 hr3 hrow hgr hg hag hmb3 hB3
      dsimp only
      refine hK.out _ _ ⟨cell_of_row w3 _ 0 _ _ _ h3, cell_of_row w3 _ 1 _ _ _ h3⟩ (fun hHeld => ?_)
      clear hK K
      try simp only [Act.put, List.getElem_toArray, List.getElem_cons_zero, List.getElem_cons_succ, List.setIfInBounds_toArray, List.set_cons_zero, List.set_cons_succ]
      refine wpAnyH_ready (rs := [7]) (by kernel_rfl) (by simp) ?_
      refine AllReadyH.cons rfl (fun K hK => ?_) AllReadyH.nil
      refine step_run (by simp [Region.wanted]) _ _ 26 rfl (R := fun v' w' => v' = .slice (gg.map fun b => ⟨b, 0, none⟩) (m1 + mb3) cap ∧ w' = w4) ⟨_, _, hap, rfl, rfl⟩ ?_
      rintro v' w' ⟨rfl, rfl⟩
      refine hK.out _ _ ⟨cell_of_row w' _ 0 _ _ _ h4, cell_of_row w' _ 1 _ _ _ h4⟩ (fun hHeld => ?_)
      clear hK K
      try simp only [Act.put, List.getElem_toArray, List.getElem_cons_zero, List.getElem_cons_succ, List.setIfInBounds_toArray, List.set_cons_zero, List.set_cons_succ]
      refine wpAnyH_ready (rs := [8]) (by kernel_rfl) (by simp) ?_
      refine AllReadyH.cons rfl (fun K hK => ?_) AllReadyH.nil
      go_simp
      refine hK.out _ _ ⟨cell_of_row w' _ 0 _ _ _ h4, cell_of_row w' _ 1 _ _ _ h4⟩ (fun hHeld => ?_)
      clear hK K
      try simp only [Act.put, List.getElem_toArray, List.getElem_cons_zero, List.getElem_cons_succ, List.setIfInBounds_toArray, List.set_cons_zero, List.set_cons_succ]
      refine wpAnyH_done (by kernel_rfl) ?_ _
      have hm1 : m1 = r'.c.1.length := sl_same hsl.out
      have hsl2 : Hid (Raw.sl ⟨gg, cap, (r'.c.1 ++ (uvarint (Lib.zigzag s) ++ uvarint k), r'.c.2)⟩ = .slice (gg.map fun b => ⟨b, 0, none⟩) (m1 + mb3) cap) := by
        show _ = _
        unfold Raw.sl
        rw [List.length_append, List.length_append, HM3.out, ← hm1]
      have hrc2 : Hid ((⟨gg, cap, (r'.c.1 ++ (uvarint (Lib.zigzag s) ++ uvarint k), r'.c.2)⟩ : Raw).c = (r.c.1 ++ encRuns (rs.take (i + 1)), r.c.2)) := by
        show _ = _
        rw [hstep.out]
        show (r'.c.1 ++ _, r'.c.2) = _
        rw [hrc.out]
        simp only [List.append_assoc]
        rfl
      have hg2 : Hid ((⟨gg, cap, (r'.c.1 ++ (uvarint (Lib.zigzag s) ++ uvarint k), r'.c.2)⟩ : Raw).g = r.g ∨ ∃ b, (⟨gg, cap, (r'.c.1 ++ (uvarint (Lib.zigzag s) ++ uvarint k), r'.c.2)⟩ : Raw).g = some b ∧ W.heap.size ≤ b) := by
        rcases HG.out with e | e
        · rcases hrg.out with e1 | ⟨b, e1, e2⟩
          · exact .inl (e.trans e1)
          · exact .inr ⟨b, e.trans e1, e2⟩
        · exact .inr ⟨_, e, Nat.le_trans hz (Nat.le_trans HBK.out.size HB3.out.size)⟩
      have hAw2 : Away (fun b => r.g = some b) W w' := by
        have h5 := (HA.out.trans (Away.of_new HBK.out (fun b => r.g = some b)) fun b e => .inl e).trans (Away.of_new HB3.out (fun b => r.g = some b)) fun b e => .inl e
        refine h5.trans HAG.out fun b e => ?_
        rcases hrg.out with e1 | ⟨b', e1, e2⟩
        · exact .inl (e1 ▸ e)
        · rw [e1] at e; injection e with e; subst e; exact .inr e2
      have HROW' := HROW.out
      have HA2 := Lib.hid hAw2
      clear hm1 hAw2 h2 h3 h4 hne hap HAG HG
      go_wp2_with fail
      go_roundw
      case rel => exact ⟨i + 1, ⟨gg, cap, (r'.c.1 ++ (uvarint (Lib.zigzag s) ++ uvarint k), r'.c.2)⟩, _, _, _, by go_num, by omega, rfl, hsl2, HROW', hrc2, hg2, HA2.out⟩
      case measure => simp [intOf]; omega
    · obtain rfl : N = i := by omega
      have hd : decide ((N : Int) < (N : Int)) = false := by simp
      have HA := Lib.hid hAw
      have HR1 := Lib.hid hr1
      clear hOr hAw hr1
      go_wp2_with fail
      go_ret
      refine ⟨⟨r', ?_, HR1.out, ?_, ?_⟩, ?_⟩
      · rw [hsl.out]; rfl
      · rw [hrc.out, List.take_of_length_le (by rw [HN.out]; exact Nat.le_refl _)]
      · rcases hrg.out with e | ⟨b, e, e2⟩
        · exact .inl e
        · exact .inr ⟨b, e, Nat.le_trans HBW.out.size e2⟩
      · exact (Away.of_new HBW.out (fun b => r.g = some b)).trans HA.out fun b e => .inl e

set_option maxRecDepth 100000 in
set_option maxHeartbeats 2000000 in
theorem runs_2 {w : World} {A : Option Addr} {n c : Nat} {es : List Ev} (h : IsEv w A n c es) (hn : n ≤ 1048576) (hok : ∀ x ∈ es, x.ok) :
    Calls Try.prog 120 #[.agg #[fnV 114, fnV 115], .slice A n c] w fun e w' => (∃ A' m cp, e = .returned (.slice A' m cp) ∧ OwnR w' w.heap.size (.slice A' m cp) (runsOf (diffs 0 (es.map (colGet 2))))) ∧ Below w.heap.size w w' := by
  obtain ⟨xs, hxs⟩ : ∃ xs, Hid (es.map (colGet 2) = xs) := ⟨_, rfl⟩
  rw [hxs.out]
  have HXL : Hid (xs.length = n) := by show _ = _; rw [← hxs.out, List.length_map]; exact h.len
  have hbox : Below w.heap.size w (w.alloc (.cells #[fnV 114, fnV 115] 133)) := (Below.refl _ _).alloc (Nat.le_refl _) _
  have hbs : (w.alloc (.cells #[fnV 114, fnV 115] 133)).heap.size = w.heap.size + 1 := Array.size_push _
  have hbc : (w.alloc (.cells #[fnV 114, fnV 115] 133)).heap[w.heap.size]? = some (.cells #[fnV 114, fnV 115] 133 (0, 0)) := heap_alloc_new _ _
  have hE := h.below hbox
  have HOK := Lib.hid hok
  clear h hok
  go_enter Try.func120, Try.ntmps120
  go_wp2_with fail
  generalize w.alloc (.cells #[fnV 114, fnV 115] 133) = W at hbox hbs hbc hE ⊢
  have HBX := Lib.hid hbox
  have HBS := Lib.hid hbs
  have HBC := Lib.hid hbc
  have HE := Lib.hid hE
  clear hbox hbs hbc hE
  go_loopw [5, 6, 14] (fun out ah q wr => ∃ (i : Nat) (A' : Option Addr) (m cp : Nat) (rs : List Run) (a : Int), q = .int .i64 (i : Int) ∧ i ≤ n ∧ out = .slice A' m cp ∧ OwnR wr W.heap.size (.slice A' m cp) rs ∧ Hid (Good rs) ∧ Hid (expand rs = diffs 0 (xs.take i)) ∧ ah = .int .i64 a ∧ Hid (a = endOf 0 (xs.take i)) ∧ Below W.heap.size W wr)
    (fun _ _ q _ => n - (intOf q).toNat)
  case atStart => exact ⟨0, none, 0, 0, [], 0, rfl, Nat.zero_le _, rfl, OwnR.nil _ _, trivial, rfl, rfl, rfl, Below.refl _ _⟩
  case round =>
    obtain ⟨i, A', m, cp, rs, a, rfl, hin, rfl, hO, hG, hX, rfl, ha, hBr⟩ := hrel
    by_cases hi : i < n
    · obtain ⟨b, o, x, rfl, hx, x0, x1, x2, x3, x4⟩ := (HE.out.below hBr).at_ hi
      have hcap := HE.out.cap
      have hxok := HOK.out x (List.mem_of_getElem? hx)
      have hxop := hxok.op
      have hXi : xs[i]? = some x.obj := by rw [← hxs.out, List.getElem?_map, hx]; rfl
      have hXi64 : In64 x.obj := colGet_in hxok 2
      have hd : decide ((i : Int) < (n : Int)) = true := decide_eq_true (by omega)
      have q0 : (0 : Int) ≤ (i : Int) := by omega
      have q1 : (i : Int) < (n : Int) := by omega
      have hsz := hBr.size
      have hbox : wr.heap[w.heap.size]? = some (.cells #[fnV 114, fnV 115] 133 (0, 0)) := (hBr.block _ (by rw [HBS.out]; omega)).trans HBC.out
      have hf0 : wr.cell? ⟨w.heap.size, 0, none⟩ = some (fnV 114) := cell_of_row _ _ 0 _ _ _ hbox
      have hlt := (Array.getElem?_eq_some_iff.1 hbox).1
      have hml := hO.len.1
      have hstep : xs.take (i + 1) = xs.take i ++ [x.obj] := take_one hXi
      have hdl : (expand rs).length = i := by rw [hX.out, diffs_length, List.length_take, HXL.out]; omega
      have hrl := runs_le hG.out
      have hmi : m ≤ i := by omega
      obtain ⟨D, hD1, hD⟩ : ∃ D : Int, Hid (D = dif a x.obj) ∧ wrap64 (x.obj - a) = D := ⟨_, rfl, rfl⟩
      have hnew : diffs 0 (xs.take (i + 1)) = diffs 0 (xs.take i) ++ [D] := by rw [hstep, diffs_snoc, hD1.out, ha.out]
      have hend : Hid (x.obj = endOf 0 (xs.take (i + 1))) := by show _ = _; rw [hstep, endOf_snoc]
      have HN := Lib.hid hnew
      have HBr := Lib.hid hBr
      have HO := Lib.hid hO
      have HML := Lib.hid hml
      have HDL := Lib.hid hdl
      have hpk := pick_2 x hxop
      clear hnew hstep hXi hbox hBr hO hml hdl hrl hx hxok
      go_wp2_with fail
      refine (hpk _).mono ?_
      rintro e w1 ⟨rfl, hb1⟩
      have hB1 := bstep0 ((Below.refl _ wr).alloc (Nat.le_refl _) _) hb1
      have hsz1 := hB1.size
      have hO1 := HO.out.below hB1
      have HBr1 := Lib.hid (HBr.out.trans (hB1.mono hsz))
      clear hb1 hB1 x0 x1 x2 x3 x4 hf0 HO hpk hlt
      by_cases hm0 : m = 0
      · have hL : (m : Int) - 1 = -1 := by omega
        have hdL : decide ((0 : Int) ≤ -1) = false := by decide
        obtain ⟨w2, hw2⟩ : ∃ w2, Hid (w2 = w1.alloc (.cells #[.int .i64 D, .int .u64 1] 156)) := ⟨_, rfl⟩
        have hb2 : Below w1.heap.size w1 (w1.alloc (.cells #[.int .i64 D, .int .u64 1] 156)) := (Below.refl _ _).alloc (Nat.le_refl _) _
        obtain ⟨v', w3, hap, A2, c2, rfl, hO3, hA3⟩ := or_append (hO1.below hb2) (Nat.le_trans (Nat.le_trans hsz hsz1) hb2.size) 153 (D, 1) (heap_alloc_new _ _) (by rw [← HML.out]; omega)
        have hB3 := (HBr1.out.trans (hb2.mono (Nat.le_trans hsz hsz1))).trans (hA3.below (B := W.heap.size) (Nat.le_trans (Nat.le_trans hsz hsz1) hb2.size) fun b' hb' => (OwnR.type (hO1.below hb2) hb').choose_spec.2)
        have hrs0 : rs = [] := List.eq_nil_of_length_eq_zero (by rw [← HML.out]; exact hm0)
        have hG3 : Hid (Good (rs ++ [(D, 1)])) := by rw [hrs0]; exact ⟨Nat.le_refl _, trivial, trivial⟩
        have hX3 : Hid (expand (rs ++ [(D, 1)]) = diffs 0 (xs.take (i + 1))) := by show _ = _; rw [expand_new, hX.out, HN.out]
        have HO3 := Lib.hid hO3
        have HB3 := Lib.hid hB3
        clear hO1 hb2 hw2 hO3 hA3 hB3 hrs0 hm0 hD1
        go_wp2_with (at_builtin; refine wpList_run _ rfl (.tmp 48) (.tmp 51) 153 rfl (R := fun v' w' => v' = .slice A2 (m + 1) c2 ∧ w' = w3) ⟨_, _, hap, rfl, rfl⟩ ?_; rintro v' w' ⟨rfl, rfl⟩)
        go_roundw
        case rel => exact ⟨i + 1, A2, m + 1, c2, rs ++ [(D, 1)], x.obj, by go_num, by omega, rfl, HO3.out, hG3, hX3, rfl, hend, HB3.out⟩
        case measure => simp [intOf]; omega
      · obtain ⟨M, hM⟩ : ∃ M, Hid (m = M + 1) := ⟨m - 1, by show _ = _; omega⟩
        have hL : (m : Int) - 1 = (M : Int) := by have := hM.out; omega
        have hdL : decide ((0 : Int) ≤ (M : Int)) = true := decide_eq_true (by omega)
        have p0 : (0 : Int) ≤ (M : Int) := by omega
        have p1 : (M : Int) < (m : Int) := by rw [hM.out]; omega
        have p2 : M < m := by rw [hM.out]; omega
        obtain ⟨rs', ⟨s, k⟩, hrs⟩ : ∃ rs' r, rs = rs' ++ [r] := by
          rcases List.eq_nil_or_concat rs with h | ⟨rs', r, h⟩
          · rw [h] at HML; exact absurd HML.out (by show m ≠ 0; exact hm0)
          · exact ⟨rs', r, by rw [h, List.concat_eq_append]⟩
        subst hrs
        have hMl : rs'.length = M := by have h1 := HML.out; have h2 := hM.out; rw [List.length_append] at h1; simp at h1; omega
        have hMs : (rs' ++ [(s, k)])[M]? = some (s, k) := by rw [← hMl, List.getElem?_append_right (Nat.le_refl _), Nat.sub_self]; rfl
        obtain ⟨g, rfl, y0, y1, cs, hgc⟩ := hO1.at_ hMs
        have hcap2 := hO1.len.2
        have yf := free_of_row hgc (M * 2 + 1)
        have hkb : k ≤ 1048576 := by
          have h1 := HDL.out
          rw [expand_append, List.length_append] at h1
          have h2 : (expand [(s, k)]).length = k := by show (List.replicate k s ++ []).length = k; rw [List.append_nil, List.length_replicate]
          omega
        have HMl := Lib.hid hMl
        by_cases hsD : s = D
        · have hsd : (s == D) = true := by rw [hsD]; simp
          have hw : IntKind.u64.wrap ((k : Int) + 1) = (k : Int) + 1 := by rw [IntKind.wrap_u64]; omega
          have hO3 := or_put hO1 ((k : Int) + 1) (by omega)
          rw [hMl] at hO3
          have hA3 := Away.setCell w1 ⟨g, M * 2 + 1, none⟩ (.int .u64 ((k : Int) + 1))
          have hB3 := HBr1.out.trans (hA3.below (B := W.heap.size) (Nat.le_trans hsz hsz1) fun b' hb' => by
            subst hb'
            exact (hO1.type rfl).choose_spec.2)
          have hG3 : Hid (Good (rs' ++ [(s, k + 1)])) := good_last hG.out
          have hX3 : Hid (expand (rs' ++ [(s, k + 1)]) = diffs 0 (xs.take (i + 1))) := by show _ = _; rw [expand_last, hX.out, HN.out, hsD]
          have HO3 := Lib.hid hO3
          have HB3 := Lib.hid hB3
          clear hO1 hgc hO3 hA3 hB3 hMs hMl hm0 hD1 hsD
          go_wp2_with fail
          go_roundw
          case rel => exact ⟨i + 1, some ⟨g, 0, none⟩, m, cp, rs' ++ [(s, k + 1)], x.obj, by go_num, by omega, rfl, HO3.out, hG3, hX3, rfl, hend, HB3.out⟩
          case measure => simp [intOf]; omega
        · have hsd : (s == D) = false := beq_eq_false_iff_ne.2 hsD
          have hb2 : Below w1.heap.size w1 (w1.alloc (.cells #[.int .i64 D, .int .u64 1] 156)) := (Below.refl _ _).alloc (Nat.le_refl _) _
          obtain ⟨v', w3, hap, A2, c2, rfl, hO3, hA3⟩ := or_append (hO1.below hb2) (Nat.le_trans (Nat.le_trans hsz hsz1) hb2.size) 153 (D, 1) (heap_alloc_new _ _) (by rw [← HML.out]; omega)
          have hB3 := (HBr1.out.trans (hb2.mono (Nat.le_trans hsz hsz1))).trans (hA3.below (B := W.heap.size) (Nat.le_trans (Nat.le_trans hsz hsz1) hb2.size) fun b' hb' => (OwnR.type (hO1.below hb2) hb').choose_spec.2)
          have hG3 : Hid (Good ((rs' ++ [(s, k)]) ++ [(D, 1)])) := good_new hG.out fun r hr => by
            rw [List.getLast?_concat] at hr
            rw [← Option.some.inj hr]
            exact hsD
          have hX3 : Hid (expand ((rs' ++ [(s, k)]) ++ [(D, 1)]) = diffs 0 (xs.take (i + 1))) := by show _ = _; rw [expand_new, hX.out, HN.out]
          have HO3 := Lib.hid hO3
          have HB3 := Lib.hid hB3
          clear hO1 hb2 hgc hO3 hA3 hB3 hMs hMl hm0 hD1 hsD
          go_wp2_with (at_builtin; refine wpList_run _ rfl (.tmp 48) (.tmp 51) 153 rfl (R := fun v' w' => v' = .slice A2 (m + 1) c2 ∧ w' = w3) ⟨_, _, hap, rfl, rfl⟩ ?_; rintro v' w' ⟨rfl, rfl⟩)
          go_roundw
          case rel => exact ⟨i + 1, A2, m + 1, c2, (rs' ++ [(s, k)]) ++ [(D, 1)], x.obj, by go_num, by omega, rfl, HO3.out, hG3, hX3, rfl, hend, HB3.out⟩
          case measure => simp [intOf]; omega
    · obtain rfl : n = i := by omega
      have hd : decide ((n : Int) < (n : Int)) = false := by simp
      have hrs : rs = runsOf (diffs 0 xs) := by
        rw [← runsOf_expand rs hG.out, hX.out, List.take_of_length_le (by rw [HXL.out]; exact Nat.le_refl _)]
      have HRS := Lib.hid hrs
      have hB := HBX.out.trans (hBr.mono (by rw [HBS.out]; omega))
      have hO' := hO.mono (base' := w.heap.size) (by rw [HBS.out]; omega)
      clear hrs hO hBr
      go_wp2_with fail
      go_ret
      exact ⟨⟨_, _, _, rfl, by rw [← HRS.out]; exact hO'⟩, hB⟩

set_option maxRecDepth 100000 in
set_option maxHeartbeats 2000000 in
theorem put_2 {w : World} {A : Option Addr} {n c : Nat} {es : List Ev} {r : Raw} {A0 : Option Addr} {m0 c0 : Nat} (h : IsEv w A n c es) (hn : n ≤ 1048576) (hok : ∀ x ∈ es, x.ok) (hr : FRow w r) (hA0 : r.sl = .slice A0 m0 c0) (hm0 : r.c.1.length ≤ 200000000) :
    Calls Try.prog 90 #[.agg #[fnV 114, fnV 115], .slice A0 m0 c0, .slice A n c] w fun e w' => (∃ r' : Raw, e = .returned r'.sl ∧ FRow w' r' ∧ r'.c = (r.c.1 ++ numsBytes (es.map (colGet 2)), r.c.2) ∧ (r'.g = r.g ∨ ∃ b, r'.g = some b ∧ w.heap.size ≤ b)) ∧ Away (fun b => r.g = some b) w w' := by
  have hbox : Below w.heap.size w (w.alloc (.cells #[fnV 114, fnV 115] 133)) := (Below.refl _ _).alloc (Nat.le_refl _) _
  have hrn := runs_2 (h.below hbox) hn hok
  have hxl : (diffs 0 (es.map (colGet 2))).length = n := by rw [diffs_length, List.length_map]; exact h.len
  have hgood := good_runs (diffs 0 (es.map (colGet 2)))
  have hexp := expand_runs (diffs 0 (es.map (colGet 2)))
  have hdin := diffs_in (es.map (colGet 2)) 0
  unfold numsBytes
  generalize runsOf (diffs 0 (es.map (colGet 2))) = rs at hrn hgood hexp ⊢
  have hrm : ∀ x ∈ rs, In64 x.1 ∧ x.2 ≤ 1048576 := fun x hx => by
    have h1 := good_mem hgood hx
    rw [hexp] at h1
    exact ⟨hdin _ h1.1, by omega⟩
  have hrl : rs.length ≤ 1048576 := by
    have := runs_le hgood
    rw [hexp, hxl] at this
    omega
  have HRM := Lib.hid hrm
  have HRN := Lib.hid hrn
  have HRL := Lib.hid hrl
  have HA0 := Lib.hid hA0
  have HR := Lib.hid (hr.away (Away.of_new hbox (fun _ => False)) fun _ _ f => f)
  have HBX := Lib.hid hbox
  clear h hok hrn hxl hgood hexp hdin hrm hbox hA0 hr hrl
  go_enter Try.func90, Try.ntmps90
  go_wp2_with fail
  refine HRN.out.mono ?_
  rintro e W ⟨⟨A', N, cp, rfl, hO⟩, hbW⟩
  have hN := hO.len.1
  have hNc := hO.len.2
  have hBW := HBX.out.trans (hbW.mono HBX.out.size)
  have hrW := HR.out.away (Away.of_new hbW (fun _ => False)) fun _ _ f => f
  have HN := Lib.hid hN
  have hN1 : N ≤ 1048576 := by rw [HN.out]; exact HRL.out
  have HBW := Lib.hid hBW
  have HO := Lib.hid hO
  have HRW := Lib.hid hrW
  clear hbW hBW hrW hO hN HRN
  go_wp2_with fail
  go_loopw [1, 13] (fun out q wr => ∃ (i : Nat) (r' : Raw) (A1 : Option Addr) (m1 c1 : Nat), q = .int .i64 (i : Int) ∧ i ≤ N ∧ out = .slice A1 m1 c1 ∧ Hid (r'.sl = .slice A1 m1 c1) ∧ FRow wr r' ∧ Hid (r'.c = (r.c.1 ++ encRuns (rs.take i), r.c.2)) ∧ Hid (r'.g = r.g ∨ ∃ b, r'.g = some b ∧ W.heap.size ≤ b) ∧ Away (fun b => r.g = some b) W wr)
    (fun _ q _ => N - (intOf q).toNat)
  case atStart => exact ⟨0, r, A0, m0, c0, rfl, Nat.zero_le _, rfl, HA0.out, HRW.out, by show _ = _; simp [encRuns], .inl rfl, Away.refl _ _⟩
  case round =>
    obtain ⟨i, r', A1, m1, c1, rfl, hin, rfl, hsl, hr1, hrc, hrg, hAw⟩ := hrel
    have hOr : OwnR wr (w.alloc (.cells #[fnV 114, fnV 115] 133)).heap.size (.slice A' N cp) rs := HO.out.away hAw fun b hb hg => by
      obtain ⟨cs, hcs, _⟩ := HO.out.type hb
      obtain ⟨cs', hcs'⟩ := row_type HRW.out hg
      rw [hcs] at hcs'; simp at hcs'
    by_cases hi : i < N
    · obtain ⟨⟨s, k⟩, hsk⟩ : ∃ x, rs[i]? = some x := ⟨_, List.getElem?_eq_getElem (by rw [← HN.out]; exact hi)⟩
      obtain ⟨g, rfl, y0, y1, cs, hgc⟩ := hOr.at_ hsk
      have hd : decide ((i : Int) < (N : Int)) = true := decide_eq_true (by omega)
      have q0 : (0 : Int) ≤ (i : Int) := by omega
      have q1 : (i : Int) < (N : Int) := by omega
      obtain ⟨hs64, hk⟩ := HRM.out _ (List.mem_of_getElem? hsk)
      have hs64 : In64 s := hs64
      have hk : k ≤ 1048576 := hk
      have hstep : Hid (encRuns (rs.take (i + 1)) = encRuns (rs.take i) ++ (svar s ++ uvarint k)) := by
        show _ = _
        rw [take_one hsk, encRuns_append]
        show _ ++ ((svar s ++ uvarint k) ++ []) = _
        rw [List.append_nil]
      have hlen : r'.c.1.length ≤ 221000000 := by
        rw [hrc.out]
        show (r.c.1 ++ encRuns (rs.take i)).length ≤ _
        rw [List.length_append]
        have := encRuns_most (rs.take i) fun x hx => by
          have := HRM.out x (List.mem_of_mem_take hx)
          exact ⟨this.1, by omega⟩
        rw [List.length_take] at this
        omega
      have hz := hAw.size
      have HA := Lib.hid hAw
      have HR1 := Lib.hid hr1
      clear hOr hsk hgc hAw hr1
      go_wp2_with fail
      have hbz : (wr.alloc (.cells #[.int .i64 s, .int .u64 (k : Int)] 156)).heap.size = wr.heap.size + 1 := Array.size_push _
      have hblk : (wr.alloc (.cells #[.int .i64 s, .int .u64 (k : Int)] 156)).heap[wr.heap.size]? = some (.cells #[.int .i64 s, .int .u64 (k : Int)] 156 (0, 0)) := heap_alloc_new _ _
      have hbk : Below wr.heap.size wr (wr.alloc (.cells #[.int .i64 s, .int .u64 (k : Int)] 156)) := (Below.refl _ _).alloc (Nat.le_refl _) _
      have HR2 := Lib.hid (HR1.out.away (Away.of_new hbk (fun _ => False)) fun _ _ f => f)
      generalize wr.alloc (.cells #[.int .i64 s, .int .u64 (k : Int)] 156) = wk at hbz hblk hbk HR2 ⊢
      have HBK := Lib.hid hbk
      have HBLK := Lib.hid hblk
      have hkl := (Array.getElem?_eq_some_iff.1 hblk).1
      clear hbk y0 y1
      refine wp_region_held_drew (S := fun w' => w'.cell? ⟨wr.heap.size, 0, none⟩ = some (.int .i64 s) ∧ w'.cell? ⟨wr.heap.size, 1, none⟩ = some (.int .u64 (k : Int))) (by kernel_rfl) ⟨cell_of_row wk _ 0 _ _ _ hblk, cell_of_row wk _ 1 _ _ _ hblk⟩ (fun hHeld => ?_)
      refine wpAnyH_take (i := 0) (v := ?_) rfl (by kernel_rfl) (by kernel_rfl) (by kernel_rfl) (fun _ _ _ h => h) (Or.inl ⟨by rfl, ?_⟩) hHeld ?_
      rotate_left
      · (intro w hSw; obtain ⟨hs0, hs1⟩ := hSw; go_simp <;> rfl)
      simp only [Act.put, List.getElem_toArray, List.getElem_cons_zero, List.getElem_cons_succ, List.setIfInBounds_toArray, List.set_cons_zero, List.set_cons_succ]
      refine wpAnyH_take (i := 1) (v := ?_) rfl (by kernel_rfl) (by kernel_rfl) (by kernel_rfl) (fun _ _ _ h => h) (Or.inl ⟨by rfl, ?_⟩) hHeld ?_
      rotate_left
      · (intro w hSw; obtain ⟨hs0, hs1⟩ := hSw; go_simp <;> rfl)
      simp only [Act.put, List.getElem_toArray, List.getElem_cons_zero, List.getElem_cons_succ, List.setIfInBounds_toArray, List.set_cons_zero, List.set_cons_succ]
      refine wpAnyH_take (i := 2) (v := ?_) rfl (by kernel_rfl) (by kernel_rfl) (by kernel_rfl) (fun _ _ _ h => h) (Or.inl ⟨by rfl, ?_⟩) hHeld ?_
      rotate_left
      · (intro w hSw; obtain ⟨hs0, hs1⟩ := hSw; go_simp <;> rfl)
      simp only [Act.put, List.getElem_toArray, List.getElem_cons_zero, List.getElem_cons_succ, List.setIfInBounds_toArray, List.set_cons_zero, List.set_cons_succ]
      refine wpAnyH_take (i := 4) (v := ?_) rfl (by kernel_rfl) (by kernel_rfl) (by kernel_rfl) (fun _ _ _ h => h) (Or.inl ⟨by rfl, ?_⟩) hHeld ?_
      rotate_left
      · (intro w hSw; obtain ⟨hs0, hs1⟩ := hSw; go_simp <;> rfl)
      simp only [Act.put, List.getElem_toArray, List.getElem_cons_zero, List.getElem_cons_succ, List.setIfInBounds_toArray, List.set_cons_zero, List.set_cons_succ]
      refine wpAnyH_take (i := 5) (v := ?_) rfl (by kernel_rfl) (by kernel_rfl) (by kernel_rfl) (fun _ _ _ h => h) (Or.inl ⟨by rfl, ?_⟩) hHeld ?_
      rotate_left
      · (intro w hSw; obtain ⟨hs0, hs1⟩ := hSw; go_simp <;> rfl)
      simp only [Act.put, List.getElem_toArray, List.getElem_cons_zero, List.getElem_cons_succ, List.setIfInBounds_toArray, List.set_cons_zero, List.set_cons_succ]
      refine wpAnyH_ready (rs := [3]) (by kernel_rfl) (by simp) ?_
      refine AllReadyH.cons rfl (fun K hK => ?_) AllReadyH.nil
      go_simp
      refine (int_any none 0 0 s [] _ (IsB.nil _) (by omega) hs64.1 hs64.2).mono ?_
      rintro e w2 ⟨v, rfl, ho, hb2⟩
      rw [List.nil_append] at ho
      obtain ⟨B, mb, cb, rfl, hI⟩ := own_slice ho
      have hb2' : Below wk.heap.size wk w2 := bstep0 ((Below.refl _ wk).drew) hb2
      have h2 := (hb2'.block _ hkl).trans HBLK.out
      have HI := Lib.hid hI
      have HB2 := Lib.hid hb2'
      have hmb := hI.len
      have hsv : (svar s).length ≤ 10 := svar_most hs64
      unfold svar at hsv
      clear hb2 ho hI hb2'
      dsimp only
      refine hK.out _ _ ⟨cell_of_row w2 _ 0 _ _ _ h2, cell_of_row w2 _ 1 _ _ _ h2⟩ (fun hHeld => ?_)
      clear hK K
      try simp only [Act.put, List.getElem_toArray, List.getElem_cons_zero, List.getElem_cons_succ, List.setIfInBounds_toArray, List.set_cons_zero, List.set_cons_succ]
      refine wpAnyH_ready (rs := [6]) (by kernel_rfl) (by simp) ?_
      refine AllReadyH.cons rfl (fun K hK => ?_) AllReadyH.nil
      go_simp
      refine (uint_any B mb cb k _ w2 HI.out (by omega) (by omega)).mono ?_
      rintro e w3 ⟨v, rfl, ho, hb3⟩
      obtain ⟨B3, mb3, cb3, rfl, hI3⟩ := own_slice ho
      have hz2 := HB2.out.size
      have hB3 : Below wk.heap.size wk w3 := HB2.out.trans (hb3.mono hz2)
      have h3 := (hB3.block _ hkl).trans HBLK.out
      have hr3 := HR2.out.away (Away.of_new hB3 (fun _ => False)) fun _ _ f => f
      have hmb3 := hI3.len
      rw [List.length_append] at hmb3
      have hkv := Lib.uvarint_length64 (x := k) (by omega)
      obtain ⟨v', w4, hap, gg, cap, rfl, hrow, hg, hgr⟩ := rowB hr3 hI3 (by omega) A1 m1 c1 hsl.out 26
      have hag := Away.of_grown hgr
      have hne : ∀ b, r'.g = some b → b ≠ wr.heap.size := fun b hb e => by
        subst e
        obtain ⟨cs', hcs'⟩ := row_type hr3 hb
        rw [h3] at hcs'; simp at hcs'
      have h4 := (hag.block _ (Array.getElem?_eq_some_iff.1 h3).1 (fun e => hne _ e rfl)).trans h3
      have HB3 := Lib.hid hB3
      have HROW := Lib.hid hrow
      have HG := Lib.hid hg
      have HAG := Lib.hid hag
      have HM3 := Lib.hid hmb3
      clear hb3 ho hI3 hr3 hrow hgr hg hag hmb3 hB3
      dsimp only
      refine hK.out _ _ ⟨cell_of_row w3 _ 0 _ _ _ h3, cell_of_row w3 _ 1 _ _ _ h3⟩ (fun hHeld => ?_)
      clear hK K
      try simp only [Act.put, List.getElem_toArray, List.getElem_cons_zero, List.getElem_cons_succ, List.setIfInBounds_toArray, List.set_cons_zero, List.set_cons_succ]
      refine wpAnyH_ready (rs := [7]) (by kernel_rfl) (by simp) ?_
      refine AllReadyH.cons rfl (fun K hK => ?_) AllReadyH.nil
      refine step_run (by simp [Region.wanted]) _ _ 26 rfl (R := fun v' w' => v' = .slice (gg.map fun b => ⟨b, 0, none⟩) (m1 + mb3) cap ∧ w' = w4) ⟨_, _, hap, rfl, rfl⟩ ?_
      rintro v' w' ⟨rfl, rfl⟩
      refine hK.out _ _ ⟨cell_of_row w' _ 0 _ _ _ h4, cell_of_row w' _ 1 _ _ _ h4⟩ (fun hHeld => ?_)
      clear hK K
      try simp only [Act.put, List.getElem_toArray, List.getElem_cons_zero, List.getElem_cons_succ, List.setIfInBounds_toArray, List.set_cons_zero, List.set_cons_succ]
      refine wpAnyH_ready (rs := [8]) (by kernel_rfl) (by simp) ?_
      refine AllReadyH.cons rfl (fun K hK => ?_) AllReadyH.nil
      go_simp
      refine hK.out _ _ ⟨cell_of_row w' _ 0 _ _ _ h4, cell_of_row w' _ 1 _ _ _ h4⟩ (fun hHeld => ?_)
      clear hK K
      try simp only [Act.put, List.getElem_toArray, List.getElem_cons_zero, List.getElem_cons_succ, List.setIfInBounds_toArray, List.set_cons_zero, List.set_cons_succ]
      refine wpAnyH_done (by kernel_rfl) ?_ _
      have hm1 : m1 = r'.c.1.length := sl_same hsl.out
      have hsl2 : Hid (Raw.sl ⟨gg, cap, (r'.c.1 ++ (uvarint (Lib.zigzag s) ++ uvarint k), r'.c.2)⟩ = .slice (gg.map fun b => ⟨b, 0, none⟩) (m1 + mb3) cap) := by
        show _ = _
        unfold Raw.sl
        rw [List.length_append, List.length_append, HM3.out, ← hm1]
      have hrc2 : Hid ((⟨gg, cap, (r'.c.1 ++ (uvarint (Lib.zigzag s) ++ uvarint k), r'.c.2)⟩ : Raw).c = (r.c.1 ++ encRuns (rs.take (i + 1)), r.c.2)) := by
        show _ = _
        rw [hstep.out]
        show (r'.c.1 ++ _, r'.c.2) = _
        rw [hrc.out]
        simp only [List.append_assoc]
        rfl
      have hg2 : Hid ((⟨gg, cap, (r'.c.1 ++ (uvarint (Lib.zigzag s) ++ uvarint k), r'.c.2)⟩ : Raw).g = r.g ∨ ∃ b, (⟨gg, cap, (r'.c.1 ++ (uvarint (Lib.zigzag s) ++ uvarint k), r'.c.2)⟩ : Raw).g = some b ∧ W.heap.size ≤ b) := by
        rcases HG.out with e | e
        · rcases hrg.out with e1 | ⟨b, e1, e2⟩
          · exact .inl (e.trans e1)
          · exact .inr ⟨b, e.trans e1, e2⟩
        · exact .inr ⟨_, e, Nat.le_trans hz (Nat.le_trans HBK.out.size HB3.out.size)⟩
      have hAw2 : Away (fun b => r.g = some b) W w' := by
        have h5 := (HA.out.trans (Away.of_new HBK.out (fun b => r.g = some b)) fun b e => .inl e).trans (Away.of_new HB3.out (fun b => r.g = some b)) fun b e => .inl e
        refine h5.trans HAG.out fun b e => ?_
        rcases hrg.out with e1 | ⟨b', e1, e2⟩
        · exact .inl (e1 ▸ e)
        · rw [e1] at e; injection e with e; subst e; exact .inr e2
      have HROW' := HROW.out
      have HA2 := Lib.hid hAw2
      clear hm1 hAw2 h2 h3 h4 hne hap HAG HG
      go_wp2_with fail
      go_roundw
      case rel => exact ⟨i + 1, ⟨gg, cap, (r'.c.1 ++ (uvarint (Lib.zigzag s) ++ uvarint k), r'.c.2)⟩, _, _, _, by go_num, by omega, rfl, hsl2, HROW', hrc2, hg2, HA2.out⟩
      case measure => simp [intOf]; omega
    · obtain rfl : N = i := by omega
      have hd : decide ((N : Int) < (N : Int)) = false := by simp
      have HA := Lib.hid hAw
      have HR1 := Lib.hid hr1
      clear hOr hAw hr1
      go_wp2_with fail
      go_ret
      refine ⟨⟨r', ?_, HR1.out, ?_, ?_⟩, ?_⟩
      · rw [hsl.out]; rfl
      · rw [hrc.out, List.take_of_length_le (by rw [HN.out]; exact Nat.le_refl _)]
      · rcases hrg.out with e | ⟨b, e, e2⟩
        · exact .inl e
        · exact .inr ⟨b, e, Nat.le_trans HBW.out.size e2⟩
      · exact (Away.of_new HBW.out (fun b => r.g = some b)).trans HA.out fun b e => .inl e

set_option maxRecDepth 100000 in
set_option maxHeartbeats 2000000 in
theorem runs_3 {w : World} {A : Option Addr} {n c : Nat} {es : List Ev} (h : IsEv w A n c es) (hn : n ≤ 1048576) (hok : ∀ x ∈ es, x.ok) :
    Calls Try.prog 120 #[.agg #[fnV 116, fnV 117], .slice A n c] w fun e w' => (∃ A' m cp, e = .returned (.slice A' m cp) ∧ OwnR w' w.heap.size (.slice A' m cp) (runsOf (diffs 0 (es.map (colGet 3))))) ∧ Below w.heap.size w w' := by
  obtain ⟨xs, hxs⟩ : ∃ xs, Hid (es.map (colGet 3) = xs) := ⟨_, rfl⟩
  rw [hxs.out]
  have HXL : Hid (xs.length = n) := by show _ = _; rw [← hxs.out, List.length_map]; exact h.len
  have hbox : Below w.heap.size w (w.alloc (.cells #[fnV 116, fnV 117] 133)) := (Below.refl _ _).alloc (Nat.le_refl _) _
  have hbs : (w.alloc (.cells #[fnV 116, fnV 117] 133)).heap.size = w.heap.size + 1 := Array.size_push _
  have hbc : (w.alloc (.cells #[fnV 116, fnV 117] 133)).heap[w.heap.size]? = some (.cells #[fnV 116, fnV 117] 133 (0, 0)) := heap_alloc_new _ _
  have hE := h.below hbox
  have HOK := Lib.hid hok
  clear h hok
  go_enter Try.func120, Try.ntmps120
  go_wp2_with fail
  generalize w.alloc (.cells #[fnV 116, fnV 117] 133) = W at hbox hbs hbc hE ⊢
  have HBX := Lib.hid hbox
  have HBS := Lib.hid hbs
  have HBC := Lib.hid hbc
  have HE := Lib.hid hE
  clear hbox hbs hbc hE
  go_loopw [5, 6, 14] (fun out ah q wr => ∃ (i : Nat) (A' : Option Addr) (m cp : Nat) (rs : List Run) (a : Int), q = .int .i64 (i : Int) ∧ i ≤ n ∧ out = .slice A' m cp ∧ OwnR wr W.heap.size (.slice A' m cp) rs ∧ Hid (Good rs) ∧ Hid (expand rs = diffs 0 (xs.take i)) ∧ ah = .int .i64 a ∧ Hid (a = endOf 0 (xs.take i)) ∧ Below W.heap.size W wr)
    (fun _ _ q _ => n - (intOf q).toNat)
  case atStart => exact ⟨0, none, 0, 0, [], 0, rfl, Nat.zero_le _, rfl, OwnR.nil _ _, trivial, rfl, rfl, rfl, Below.refl _ _⟩
  case round =>
    obtain ⟨i, A', m, cp, rs, a, rfl, hin, rfl, hO, hG, hX, rfl, ha, hBr⟩ := hrel
    by_cases hi : i < n
    · obtain ⟨b, o, x, rfl, hx, x0, x1, x2, x3, x4⟩ := (HE.out.below hBr).at_ hi
      have hcap := HE.out.cap
      have hxok := HOK.out x (List.mem_of_getElem? hx)
      have hxop := hxok.op
      have hXi : xs[i]? = some x.a := by rw [← hxs.out, List.getElem?_map, hx]; rfl
      have hXi64 : In64 x.a := colGet_in hxok 3
      have hd : decide ((i : Int) < (n : Int)) = true := decide_eq_true (by omega)
      have q0 : (0 : Int) ≤ (i : Int) := by omega
      have q1 : (i : Int) < (n : Int) := by omega
      have hsz := hBr.size
      have hbox : wr.heap[w.heap.size]? = some (.cells #[fnV 116, fnV 117] 133 (0, 0)) := (hBr.block _ (by rw [HBS.out]; omega)).trans HBC.out
      have hf0 : wr.cell? ⟨w.heap.size, 0, none⟩ = some (fnV 116) := cell_of_row _ _ 0 _ _ _ hbox
      have hlt := (Array.getElem?_eq_some_iff.1 hbox).1
      have hml := hO.len.1
      have hstep : xs.take (i + 1) = xs.take i ++ [x.a] := take_one hXi
      have hdl : (expand rs).length = i := by rw [hX.out, diffs_length, List.length_take, HXL.out]; omega
      have hrl := runs_le hG.out
      have hmi : m ≤ i := by omega
      obtain ⟨D, hD1, hD⟩ : ∃ D : Int, Hid (D = dif a x.a) ∧ wrap64 (x.a - a) = D := ⟨_, rfl, rfl⟩
      have hnew : diffs 0 (xs.take (i + 1)) = diffs 0 (xs.take i) ++ [D] := by rw [hstep, diffs_snoc, hD1.out, ha.out]
      have hend : Hid (x.a = endOf 0 (xs.take (i + 1))) := by show _ = _; rw [hstep, endOf_snoc]
      have HN := Lib.hid hnew
      have HBr := Lib.hid hBr
      have HO := Lib.hid hO
      have HML := Lib.hid hml
      have HDL := Lib.hid hdl
      have hpk := pick_3 x hxop
      clear hnew hstep hXi hbox hBr hO hml hdl hrl hx hxok
      go_wp2_with fail
      refine (hpk _).mono ?_
      rintro e w1 ⟨rfl, hb1⟩
      have hB1 := bstep0 ((Below.refl _ wr).alloc (Nat.le_refl _) _) hb1
      have hsz1 := hB1.size
      have hO1 := HO.out.below hB1
      have HBr1 := Lib.hid (HBr.out.trans (hB1.mono hsz))
      clear hb1 hB1 x0 x1 x2 x3 x4 hf0 HO hpk hlt
      by_cases hm0 : m = 0
      · have hL : (m : Int) - 1 = -1 := by omega
        have hdL : decide ((0 : Int) ≤ -1) = false := by decide
        obtain ⟨w2, hw2⟩ : ∃ w2, Hid (w2 = w1.alloc (.cells #[.int .i64 D, .int .u64 1] 156)) := ⟨_, rfl⟩
        have hb2 : Below w1.heap.size w1 (w1.alloc (.cells #[.int .i64 D, .int .u64 1] 156)) := (Below.refl _ _).alloc (Nat.le_refl _) _
        obtain ⟨v', w3, hap, A2, c2, rfl, hO3, hA3⟩ := or_append (hO1.below hb2) (Nat.le_trans (Nat.le_trans hsz hsz1) hb2.size) 153 (D, 1) (heap_alloc_new _ _) (by rw [← HML.out]; omega)
        have hB3 := (HBr1.out.trans (hb2.mono (Nat.le_trans hsz hsz1))).trans (hA3.below (B := W.heap.size) (Nat.le_trans (Nat.le_trans hsz hsz1) hb2.size) fun b' hb' => (OwnR.type (hO1.below hb2) hb').choose_spec.2)
        have hrs0 : rs = [] := List.eq_nil_of_length_eq_zero (by rw [← HML.out]; exact hm0)
        have hG3 : Hid (Good (rs ++ [(D, 1)])) := by rw [hrs0]; exact ⟨Nat.le_refl _, trivial, trivial⟩
        have hX3 : Hid (expand (rs ++ [(D, 1)]) = diffs 0 (xs.take (i + 1))) := by show _ = _; rw [expand_new, hX.out, HN.out]
        have HO3 := Lib.hid hO3
        have HB3 := Lib.hid hB3
        clear hO1 hb2 hw2 hO3 hA3 hB3 hrs0 hm0 hD1
        go_wp2_with (at_builtin; refine wpList_run _ rfl (.tmp 48) (.tmp 51) 153 rfl (R := fun v' w' => v' = .slice A2 (m + 1) c2 ∧ w' = w3) ⟨_, _, hap, rfl, rfl⟩ ?_; rintro v' w' ⟨rfl, rfl⟩)
        go_roundw
        case rel => exact ⟨i + 1, A2, m + 1, c2, rs ++ [(D, 1)], x.a, by go_num, by omega, rfl, HO3.out, hG3, hX3, rfl, hend, HB3.out⟩
        case measure => simp [intOf]; omega
      · obtain ⟨M, hM⟩ : ∃ M, Hid (m = M + 1) := ⟨m - 1, by show _ = _; omega⟩
        have hL : (m : Int) - 1 = (M : Int) := by have := hM.out; omega
        have hdL : decide ((0 : Int) ≤ (M : Int)) = true := decide_eq_true (by omega)
        have p0 : (0 : Int) ≤ (M : Int) := by omega
        have p1 : (M : Int) < (m : Int) := by rw [hM.out]; omega
        have p2 : M < m := by rw [hM.out]; omega
        obtain ⟨rs', ⟨s, k⟩, hrs⟩ : ∃ rs' r, rs = rs' ++ [r] := by
          rcases List.eq_nil_or_concat rs with h | ⟨rs', r, h⟩
          · rw [h] at HML; exact absurd HML.out (by show m ≠ 0; exact hm0)
          · exact ⟨rs', r, by rw [h, List.concat_eq_append]⟩
        subst hrs
        have hMl : rs'.length = M := by have h1 := HML.out; have h2 := hM.out; rw [List.length_append] at h1; simp at h1; omega
        have hMs : (rs' ++ [(s, k)])[M]? = some (s, k) := by rw [← hMl, List.getElem?_append_right (Nat.le_refl _), Nat.sub_self]; rfl
        obtain ⟨g, rfl, y0, y1, cs, hgc⟩ := hO1.at_ hMs
        have hcap2 := hO1.len.2
        have yf := free_of_row hgc (M * 2 + 1)
        have hkb : k ≤ 1048576 := by
          have h1 := HDL.out
          rw [expand_append, List.length_append] at h1
          have h2 : (expand [(s, k)]).length = k := by show (List.replicate k s ++ []).length = k; rw [List.append_nil, List.length_replicate]
          omega
        have HMl := Lib.hid hMl
        by_cases hsD : s = D
        · have hsd : (s == D) = true := by rw [hsD]; simp
          have hw : IntKind.u64.wrap ((k : Int) + 1) = (k : Int) + 1 := by rw [IntKind.wrap_u64]; omega
          have hO3 := or_put hO1 ((k : Int) + 1) (by omega)
          rw [hMl] at hO3
          have hA3 := Away.setCell w1 ⟨g, M * 2 + 1, none⟩ (.int .u64 ((k : Int) + 1))
          have hB3 := HBr1.out.trans (hA3.below (B := W.heap.size) (Nat.le_trans hsz hsz1) fun b' hb' => by
            subst hb'
            exact (hO1.type rfl).choose_spec.2)
          have hG3 : Hid (Good (rs' ++ [(s, k + 1)])) := good_last hG.out
          have hX3 : Hid (expand (rs' ++ [(s, k + 1)]) = diffs 0 (xs.take (i + 1))) := by show _ = _; rw [expand_last, hX.out, HN.out, hsD]
          have HO3 := Lib.hid hO3
          have HB3 := Lib.hid hB3
          clear hO1 hgc hO3 hA3 hB3 hMs hMl hm0 hD1 hsD
          go_wp2_with fail
          go_roundw
          case rel => exact ⟨i + 1, some ⟨g, 0, none⟩, m, cp, rs' ++ [(s, k + 1)], x.a, by go_num, by omega, rfl, HO3.out, hG3, hX3, rfl, hend, HB3.out⟩
          case measure => simp [intOf]; omega
        · have hsd : (s == D) = false := beq_eq_false_iff_ne.2 hsD
          have hb2 : Below w1.heap.size w1 (w1.alloc (.cells #[.int .i64 D, .int .u64 1] 156)) := (Below.refl _ _).alloc (Nat.le_refl _) _
          obtain ⟨v', w3, hap, A2, c2, rfl, hO3, hA3⟩ := or_append (hO1.below hb2) (Nat.le_trans (Nat.le_trans hsz hsz1) hb2.size) 153 (D, 1) (heap_alloc_new _ _) (by rw [← HML.out]; omega)
          have hB3 := (HBr1.out.trans (hb2.mono (Nat.le_trans hsz hsz1))).trans (hA3.below (B := W.heap.size) (Nat.le_trans (Nat.le_trans hsz hsz1) hb2.size) fun b' hb' => (OwnR.type (hO1.below hb2) hb').choose_spec.2)
          have hG3 : Hid (Good ((rs' ++ [(s, k)]) ++ [(D, 1)])) := good_new hG.out fun r hr => by
            rw [List.getLast?_concat] at hr
            rw [← Option.some.inj hr]
            exact hsD
          have hX3 : Hid (expand ((rs' ++ [(s, k)]) ++ [(D, 1)]) = diffs 0 (xs.take (i + 1))) := by show _ = _; rw [expand_new, hX.out, HN.out]
          have HO3 := Lib.hid hO3
          have HB3 := Lib.hid hB3
          clear hO1 hb2 hgc hO3 hA3 hB3 hMs hMl hm0 hD1 hsD
          go_wp2_with (at_builtin; refine wpList_run _ rfl (.tmp 48) (.tmp 51) 153 rfl (R := fun v' w' => v' = .slice A2 (m + 1) c2 ∧ w' = w3) ⟨_, _, hap, rfl, rfl⟩ ?_; rintro v' w' ⟨rfl, rfl⟩)
          go_roundw
          case rel => exact ⟨i + 1, A2, m + 1, c2, (rs' ++ [(s, k)]) ++ [(D, 1)], x.a, by go_num, by omega, rfl, HO3.out, hG3, hX3, rfl, hend, HB3.out⟩
          case measure => simp [intOf]; omega
    · obtain rfl : n = i := by omega
      have hd : decide ((n : Int) < (n : Int)) = false := by simp
      have hrs : rs = runsOf (diffs 0 xs) := by
        rw [← runsOf_expand rs hG.out, hX.out, List.take_of_length_le (by rw [HXL.out]; exact Nat.le_refl _)]
      have HRS := Lib.hid hrs
      have hB := HBX.out.trans (hBr.mono (by rw [HBS.out]; omega))
      have hO' := hO.mono (base' := w.heap.size) (by rw [HBS.out]; omega)
      clear hrs hO hBr
      go_wp2_with fail
      go_ret
      exact ⟨⟨_, _, _, rfl, by rw [← HRS.out]; exact hO'⟩, hB⟩

set_option maxRecDepth 100000 in
set_option maxHeartbeats 2000000 in
theorem put_3 {w : World} {A : Option Addr} {n c : Nat} {es : List Ev} {r : Raw} {A0 : Option Addr} {m0 c0 : Nat} (h : IsEv w A n c es) (hn : n ≤ 1048576) (hok : ∀ x ∈ es, x.ok) (hr : FRow w r) (hA0 : r.sl = .slice A0 m0 c0) (hm0 : r.c.1.length ≤ 200000000) :
    Calls Try.prog 90 #[.agg #[fnV 116, fnV 117], .slice A0 m0 c0, .slice A n c] w fun e w' => (∃ r' : Raw, e = .returned r'.sl ∧ FRow w' r' ∧ r'.c = (r.c.1 ++ numsBytes (es.map (colGet 3)), r.c.2) ∧ (r'.g = r.g ∨ ∃ b, r'.g = some b ∧ w.heap.size ≤ b)) ∧ Away (fun b => r.g = some b) w w' := by
  have hbox : Below w.heap.size w (w.alloc (.cells #[fnV 116, fnV 117] 133)) := (Below.refl _ _).alloc (Nat.le_refl _) _
  have hrn := runs_3 (h.below hbox) hn hok
  have hxl : (diffs 0 (es.map (colGet 3))).length = n := by rw [diffs_length, List.length_map]; exact h.len
  have hgood := good_runs (diffs 0 (es.map (colGet 3)))
  have hexp := expand_runs (diffs 0 (es.map (colGet 3)))
  have hdin := diffs_in (es.map (colGet 3)) 0
  unfold numsBytes
  generalize runsOf (diffs 0 (es.map (colGet 3))) = rs at hrn hgood hexp ⊢
  have hrm : ∀ x ∈ rs, In64 x.1 ∧ x.2 ≤ 1048576 := fun x hx => by
    have h1 := good_mem hgood hx
    rw [hexp] at h1
    exact ⟨hdin _ h1.1, by omega⟩
  have hrl : rs.length ≤ 1048576 := by
    have := runs_le hgood
    rw [hexp, hxl] at this
    omega
  have HRM := Lib.hid hrm
  have HRN := Lib.hid hrn
  have HRL := Lib.hid hrl
  have HA0 := Lib.hid hA0
  have HR := Lib.hid (hr.away (Away.of_new hbox (fun _ => False)) fun _ _ f => f)
  have HBX := Lib.hid hbox
  clear h hok hrn hxl hgood hexp hdin hrm hbox hA0 hr hrl
  go_enter Try.func90, Try.ntmps90
  go_wp2_with fail
  refine HRN.out.mono ?_
  rintro e W ⟨⟨A', N, cp, rfl, hO⟩, hbW⟩
  have hN := hO.len.1
  have hNc := hO.len.2
  have hBW := HBX.out.trans (hbW.mono HBX.out.size)
  have hrW := HR.out.away (Away.of_new hbW (fun _ => False)) fun _ _ f => f
  have HN := Lib.hid hN
  have hN1 : N ≤ 1048576 := by rw [HN.out]; exact HRL.out
  have HBW := Lib.hid hBW
  have HO := Lib.hid hO
  have HRW := Lib.hid hrW
  clear hbW hBW hrW hO hN HRN
  go_wp2_with fail
  go_loopw [1, 13] (fun out q wr => ∃ (i : Nat) (r' : Raw) (A1 : Option Addr) (m1 c1 : Nat), q = .int .i64 (i : Int) ∧ i ≤ N ∧ out = .slice A1 m1 c1 ∧ Hid (r'.sl = .slice A1 m1 c1) ∧ FRow wr r' ∧ Hid (r'.c = (r.c.1 ++ encRuns (rs.take i), r.c.2)) ∧ Hid (r'.g = r.g ∨ ∃ b, r'.g = some b ∧ W.heap.size ≤ b) ∧ Away (fun b => r.g = some b) W wr)
    (fun _ q _ => N - (intOf q).toNat)
  case atStart => exact ⟨0, r, A0, m0, c0, rfl, Nat.zero_le _, rfl, HA0.out, HRW.out, by show _ = _; simp [encRuns], .inl rfl, Away.refl _ _⟩
  case round =>
    obtain ⟨i, r', A1, m1, c1, rfl, hin, rfl, hsl, hr1, hrc, hrg, hAw⟩ := hrel
    have hOr : OwnR wr (w.alloc (.cells #[fnV 116, fnV 117] 133)).heap.size (.slice A' N cp) rs := HO.out.away hAw fun b hb hg => by
      obtain ⟨cs, hcs, _⟩ := HO.out.type hb
      obtain ⟨cs', hcs'⟩ := row_type HRW.out hg
      rw [hcs] at hcs'; simp at hcs'
    by_cases hi : i < N
    · obtain ⟨⟨s, k⟩, hsk⟩ : ∃ x, rs[i]? = some x := ⟨_, List.getElem?_eq_getElem (by rw [← HN.out]; exact hi)⟩
      obtain ⟨g, rfl, y0, y1, cs, hgc⟩ := hOr.at_ hsk
      have hd : decide ((i : Int) < (N : Int)) = true := decide_eq_true (by omega)
      have q0 : (0 : Int) ≤ (i : Int) := by omega
      have q1 : (i : Int) < (N : Int) := by omega
      obtain ⟨hs64, hk⟩ := HRM.out _ (List.mem_of_getElem? hsk)
      have hs64 : In64 s := hs64
      have hk : k ≤ 1048576 := hk
      have hstep : Hid (encRuns (rs.take (i + 1)) = encRuns (rs.take i) ++ (svar s ++ uvarint k)) := by
        show _ = _
        rw [take_one hsk, encRuns_append]
        show _ ++ ((svar s ++ uvarint k) ++ []) = _
        rw [List.append_nil]
      have hlen : r'.c.1.length ≤ 221000000 := by
        rw [hrc.out]
        show (r.c.1 ++ encRuns (rs.take i)).length ≤ _
        rw [List.length_append]
        have := encRuns_most (rs.take i) fun x hx => by
          have := HRM.out x (List.mem_of_mem_take hx)
          exact ⟨this.1, by omega⟩
        rw [List.length_take] at this
        omega
      have hz := hAw.size
      have HA := Lib.hid hAw
      have HR1 := Lib.hid hr1
      clear hOr hsk hgc hAw hr1
      go_wp2_with fail
      have hbz : (wr.alloc (.cells #[.int .i64 s, .int .u64 (k : Int)] 156)).heap.size = wr.heap.size + 1 := Array.size_push _
      have hblk : (wr.alloc (.cells #[.int .i64 s, .int .u64 (k : Int)] 156)).heap[wr.heap.size]? = some (.cells #[.int .i64 s, .int .u64 (k : Int)] 156 (0, 0)) := heap_alloc_new _ _
      have hbk : Below wr.heap.size wr (wr.alloc (.cells #[.int .i64 s, .int .u64 (k : Int)] 156)) := (Below.refl _ _).alloc (Nat.le_refl _) _
      have HR2 := Lib.hid (HR1.out.away (Away.of_new hbk (fun _ => False)) fun _ _ f => f)
      generalize wr.alloc (.cells #[.int .i64 s, .int .u64 (k : Int)] 156) = wk at hbz hblk hbk HR2 ⊢
      have HBK := Lib.hid hbk
      have HBLK := Lib.hid hblk
      have hkl := (Array.getElem?_eq_some_iff.1 hblk).1
      clear hbk y0 y1
      refine wp_region_held_drew (S := fun w' => w'.cell? ⟨wr.heap.size, 0, none⟩ = some (.int .i64 s) ∧ w'.cell? ⟨wr.heap.size, 1, none⟩ = some (.int .u64 (k : Int))) (by kernel_rfl) ⟨cell_of_row wk _ 0 _ _ _ hblk, cell_of_row wk _ 1 _ _ _ hblk⟩ (fun hHeld => ?_)
      refine wpAnyH_take (i := 0) (v := ?_) rfl (by kernel_rfl) (by kernel_rfl) (by kernel_rfl) (fun _ _ _ h => h) (Or.inl ⟨by rfl, ?_⟩) hHeld ?_
      rotate_left
      · (intro w hSw; obtain ⟨hs0, hs1⟩ := hSw; go_simp <;> rfl)
      simp only [Act.put, List.getElem_toArray, List.getElem_cons_zero, List.getElem_cons_succ, List.setIfInBounds_toArray, List.set_cons_zero, List.set_cons_succ]
      refine wpAnyH_take (i := 1) (v := ?_) rfl (by kernel_rfl) (by kernel_rfl) (by kernel_rfl) (fun _ _ _ h => h) (Or.inl ⟨by rfl, ?_⟩) hHeld ?_
      rotate_left
      · (intro w hSw; obtain ⟨hs0, hs1⟩ := hSw; go_simp <;> rfl)
      simp only [Act.put, List.getElem_toArray, List.getElem_cons_zero, List.getElem_cons_succ, List.setIfInBounds_toArray, List.set_cons_zero, List.set_cons_succ]
      refine wpAnyH_take (i := 2) (v := ?_) rfl (by kernel_rfl) (by kernel_rfl) (by kernel_rfl) (fun _ _ _ h => h) (Or.inl ⟨by rfl, ?_⟩) hHeld ?_
      rotate_left
      · (intro w hSw; obtain ⟨hs0, hs1⟩ := hSw; go_simp <;> rfl)
      simp only [Act.put, List.getElem_toArray, List.getElem_cons_zero, List.getElem_cons_succ, List.setIfInBounds_toArray, List.set_cons_zero, List.set_cons_succ]
      refine wpAnyH_take (i := 4) (v := ?_) rfl (by kernel_rfl) (by kernel_rfl) (by kernel_rfl) (fun _ _ _ h => h) (Or.inl ⟨by rfl, ?_⟩) hHeld ?_
      rotate_left
      · (intro w hSw; obtain ⟨hs0, hs1⟩ := hSw; go_simp <;> rfl)
      simp only [Act.put, List.getElem_toArray, List.getElem_cons_zero, List.getElem_cons_succ, List.setIfInBounds_toArray, List.set_cons_zero, List.set_cons_succ]
      refine wpAnyH_take (i := 5) (v := ?_) rfl (by kernel_rfl) (by kernel_rfl) (by kernel_rfl) (fun _ _ _ h => h) (Or.inl ⟨by rfl, ?_⟩) hHeld ?_
      rotate_left
      · (intro w hSw; obtain ⟨hs0, hs1⟩ := hSw; go_simp <;> rfl)
      simp only [Act.put, List.getElem_toArray, List.getElem_cons_zero, List.getElem_cons_succ, List.setIfInBounds_toArray, List.set_cons_zero, List.set_cons_succ]
      refine wpAnyH_ready (rs := [3]) (by kernel_rfl) (by simp) ?_
      refine AllReadyH.cons rfl (fun K hK => ?_) AllReadyH.nil
      go_simp
      refine (int_any none 0 0 s [] _ (IsB.nil _) (by omega) hs64.1 hs64.2).mono ?_
      rintro e w2 ⟨v, rfl, ho, hb2⟩
      rw [List.nil_append] at ho
      obtain ⟨B, mb, cb, rfl, hI⟩ := own_slice ho
      have hb2' : Below wk.heap.size wk w2 := bstep0 ((Below.refl _ wk).drew) hb2
      have h2 := (hb2'.block _ hkl).trans HBLK.out
      have HI := Lib.hid hI
      have HB2 := Lib.hid hb2'
      have hmb := hI.len
      have hsv : (svar s).length ≤ 10 := svar_most hs64
      unfold svar at hsv
      clear hb2 ho hI hb2'
      dsimp only
      refine hK.out _ _ ⟨cell_of_row w2 _ 0 _ _ _ h2, cell_of_row w2 _ 1 _ _ _ h2⟩ (fun hHeld => ?_)
      clear hK K
      try simp only [Act.put, List.getElem_toArray, List.getElem_cons_zero, List.getElem_cons_succ, List.setIfInBounds_toArray, List.set_cons_zero, List.set_cons_succ]
      refine wpAnyH_ready (rs := [6]) (by kernel_rfl) (by simp) ?_
      refine AllReadyH.cons rfl (fun K hK => ?_) AllReadyH.nil
      go_simp
      refine (uint_any B mb cb k _ w2 HI.out (by omega) (by omega)).mono ?_
      rintro e w3 ⟨v, rfl, ho, hb3⟩
      obtain ⟨B3, mb3, cb3, rfl, hI3⟩ := own_slice ho
      have hz2 := HB2.out.size
      have hB3 : Below wk.heap.size wk w3 := HB2.out.trans (hb3.mono hz2)
      have h3 := (hB3.block _ hkl).trans HBLK.out
      have hr3 := HR2.out.away (Away.of_new hB3 (fun _ => False)) fun _ _ f => f
      have hmb3 := hI3.len
      rw [List.length_append] at hmb3
      have hkv := Lib.uvarint_length64 (x := k) (by omega)
      obtain ⟨v', w4, hap, gg, cap, rfl, hrow, hg, hgr⟩ := rowB hr3 hI3 (by omega) A1 m1 c1 hsl.out 26
      have hag := Away.of_grown hgr
      have hne : ∀ b, r'.g = some b → b ≠ wr.heap.size := fun b hb e => by
        subst e
        obtain ⟨cs', hcs'⟩ := row_type hr3 hb
        rw [h3] at hcs'; simp at hcs'
      have h4 := (hag.block _ (Array.getElem?_eq_some_iff.1 h3).1 (fun e => hne _ e rfl)).trans h3
      have HB3 := Lib.hid hB3
      have HROW := Lib.hid hrow
      have HG := Lib.hid hg
      have HAG := Lib.hid hag
      have HM3 := Lib.hid hmb3
      clear hb3 ho hI3 hr3 hrow hgr hg hag hmb3 hB3
      dsimp only
      refine hK.out _ _ ⟨cell_of_row w3 _ 0 _ _ _ h3, cell_of_row w3 _ 1 _ _ _ h3⟩ (fun hHeld => ?_)
      clear hK K
      try simp only [Act.put, List.getElem_toArray, List.getElem_cons_zero, List.getElem_cons_succ, List.setIfInBounds_toArray, List.set_cons_zero, List.set_cons_succ]
      refine wpAnyH_ready (rs := [7]) (by kernel_rfl) (by simp) ?_
      refine AllReadyH.cons rfl (fun K hK => ?_) AllReadyH.nil
      refine step_run (by simp [Region.wanted]) _ _ 26 rfl (R := fun v' w' => v' = .slice (gg.map fun b => ⟨b, 0, none⟩) (m1 + mb3) cap ∧ w' = w4) ⟨_, _, hap, rfl, rfl⟩ ?_
      rintro v' w' ⟨rfl, rfl⟩
      refine hK.out _ _ ⟨cell_of_row w' _ 0 _ _ _ h4, cell_of_row w' _ 1 _ _ _ h4⟩ (fun hHeld => ?_)
      clear hK K
      try simp only [Act.put, List.getElem_toArray, List.getElem_cons_zero, List.getElem_cons_succ, List.setIfInBounds_toArray, List.set_cons_zero, List.set_cons_succ]
      refine wpAnyH_ready (rs := [8]) (by kernel_rfl) (by simp) ?_
      refine AllReadyH.cons rfl (fun K hK => ?_) AllReadyH.nil
      go_simp
      refine hK.out _ _ ⟨cell_of_row w' _ 0 _ _ _ h4, cell_of_row w' _ 1 _ _ _ h4⟩ (fun hHeld => ?_)
      clear hK K
      try simp only [Act.put, List.getElem_toArray, List.getElem_cons_zero, List.getElem_cons_succ, List.setIfInBounds_toArray, List.set_cons_zero, List.set_cons_succ]
      refine wpAnyH_done (by kernel_rfl) ?_ _
      have hm1 : m1 = r'.c.1.length := sl_same hsl.out
      have hsl2 : Hid (Raw.sl ⟨gg, cap, (r'.c.1 ++ (uvarint (Lib.zigzag s) ++ uvarint k), r'.c.2)⟩ = .slice (gg.map fun b => ⟨b, 0, none⟩) (m1 + mb3) cap) := by
        show _ = _
        unfold Raw.sl
        rw [List.length_append, List.length_append, HM3.out, ← hm1]
      have hrc2 : Hid ((⟨gg, cap, (r'.c.1 ++ (uvarint (Lib.zigzag s) ++ uvarint k), r'.c.2)⟩ : Raw).c = (r.c.1 ++ encRuns (rs.take (i + 1)), r.c.2)) := by
        show _ = _
        rw [hstep.out]
        show (r'.c.1 ++ _, r'.c.2) = _
        rw [hrc.out]
        simp only [List.append_assoc]
        rfl
      have hg2 : Hid ((⟨gg, cap, (r'.c.1 ++ (uvarint (Lib.zigzag s) ++ uvarint k), r'.c.2)⟩ : Raw).g = r.g ∨ ∃ b, (⟨gg, cap, (r'.c.1 ++ (uvarint (Lib.zigzag s) ++ uvarint k), r'.c.2)⟩ : Raw).g = some b ∧ W.heap.size ≤ b) := by
        rcases HG.out with e | e
        · rcases hrg.out with e1 | ⟨b, e1, e2⟩
          · exact .inl (e.trans e1)
          · exact .inr ⟨b, e.trans e1, e2⟩
        · exact .inr ⟨_, e, Nat.le_trans hz (Nat.le_trans HBK.out.size HB3.out.size)⟩
      have hAw2 : Away (fun b => r.g = some b) W w' := by
        have h5 := (HA.out.trans (Away.of_new HBK.out (fun b => r.g = some b)) fun b e => .inl e).trans (Away.of_new HB3.out (fun b => r.g = some b)) fun b e => .inl e
        refine h5.trans HAG.out fun b e => ?_
        rcases hrg.out with e1 | ⟨b', e1, e2⟩
        · exact .inl (e1 ▸ e)
        · rw [e1] at e; injection e with e; subst e; exact .inr e2
      have HROW' := HROW.out
      have HA2 := Lib.hid hAw2
      clear hm1 hAw2 h2 h3 h4 hne hap HAG HG
      go_wp2_with fail
      go_roundw
      case rel => exact ⟨i + 1, ⟨gg, cap, (r'.c.1 ++ (uvarint (Lib.zigzag s) ++ uvarint k), r'.c.2)⟩, _, _, _, by go_num, by omega, rfl, hsl2, HROW', hrc2, hg2, HA2.out⟩
      case measure => simp [intOf]; omega
    · obtain rfl : N = i := by omega
      have hd : decide ((N : Int) < (N : Int)) = false := by simp
      have HA := Lib.hid hAw
      have HR1 := Lib.hid hr1
      clear hOr hAw hr1
      go_wp2_with fail
      go_ret
      refine ⟨⟨r', ?_, HR1.out, ?_, ?_⟩, ?_⟩
      · rw [hsl.out]; rfl
      · rw [hrc.out, List.take_of_length_le (by rw [HN.out]; exact Nat.le_refl _)]
      · rcases hrg.out with e | ⟨b, e, e2⟩
        · exact .inl e
        · exact .inr ⟨b, e, Nat.le_trans HBW.out.size e2⟩
      · exact (Away.of_new HBW.out (fun b => r.g = some b)).trans HA.out fun b e => .inl e

set_option maxRecDepth 100000 in
set_option maxHeartbeats 2000000 in
theorem runs_4 {w : World} {A : Option Addr} {n c : Nat} {es : List Ev} (h : IsEv w A n c es) (hn : n ≤ 1048576) (hok : ∀ x ∈ es, x.ok) :
    Calls Try.prog 120 #[.agg #[fnV 118, fnV 119], .slice A n c] w fun e w' => (∃ A' m cp, e = .returned (.slice A' m cp) ∧ OwnR w' w.heap.size (.slice A' m cp) (runsOf (diffs 0 (es.map (colGet 4))))) ∧ Below w.heap.size w w' := by
  obtain ⟨xs, hxs⟩ : ∃ xs, Hid (es.map (colGet 4) = xs) := ⟨_, rfl⟩
  rw [hxs.out]
  have HXL : Hid (xs.length = n) := by show _ = _; rw [← hxs.out, List.length_map]; exact h.len
  have hbox : Below w.heap.size w (w.alloc (.cells #[fnV 118, fnV 119] 133)) := (Below.refl _ _).alloc (Nat.le_refl _) _
  have hbs : (w.alloc (.cells #[fnV 118, fnV 119] 133)).heap.size = w.heap.size + 1 := Array.size_push _
  have hbc : (w.alloc (.cells #[fnV 118, fnV 119] 133)).heap[w.heap.size]? = some (.cells #[fnV 118, fnV 119] 133 (0, 0)) := heap_alloc_new _ _
  have hE := h.below hbox
  have HOK := Lib.hid hok
  clear h hok
  go_enter Try.func120, Try.ntmps120
  go_wp2_with fail
  generalize w.alloc (.cells #[fnV 118, fnV 119] 133) = W at hbox hbs hbc hE ⊢
  have HBX := Lib.hid hbox
  have HBS := Lib.hid hbs
  have HBC := Lib.hid hbc
  have HE := Lib.hid hE
  clear hbox hbs hbc hE
  go_loopw [5, 6, 14] (fun out ah q wr => ∃ (i : Nat) (A' : Option Addr) (m cp : Nat) (rs : List Run) (a : Int), q = .int .i64 (i : Int) ∧ i ≤ n ∧ out = .slice A' m cp ∧ OwnR wr W.heap.size (.slice A' m cp) rs ∧ Hid (Good rs) ∧ Hid (expand rs = diffs 0 (xs.take i)) ∧ ah = .int .i64 a ∧ Hid (a = endOf 0 (xs.take i)) ∧ Below W.heap.size W wr)
    (fun _ _ q _ => n - (intOf q).toNat)
  case atStart => exact ⟨0, none, 0, 0, [], 0, rfl, Nat.zero_le _, rfl, OwnR.nil _ _, trivial, rfl, rfl, rfl, Below.refl _ _⟩
  case round =>
    obtain ⟨i, A', m, cp, rs, a, rfl, hin, rfl, hO, hG, hX, rfl, ha, hBr⟩ := hrel
    by_cases hi : i < n
    · obtain ⟨b, o, x, rfl, hx, x0, x1, x2, x3, x4⟩ := (HE.out.below hBr).at_ hi
      have hcap := HE.out.cap
      have hxok := HOK.out x (List.mem_of_getElem? hx)
      have hxop := hxok.op
      have hXi : xs[i]? = some x.b := by rw [← hxs.out, List.getElem?_map, hx]; rfl
      have hXi64 : In64 x.b := colGet_in hxok 4
      have hd : decide ((i : Int) < (n : Int)) = true := decide_eq_true (by omega)
      have q0 : (0 : Int) ≤ (i : Int) := by omega
      have q1 : (i : Int) < (n : Int) := by omega
      have hsz := hBr.size
      have hbox : wr.heap[w.heap.size]? = some (.cells #[fnV 118, fnV 119] 133 (0, 0)) := (hBr.block _ (by rw [HBS.out]; omega)).trans HBC.out
      have hf0 : wr.cell? ⟨w.heap.size, 0, none⟩ = some (fnV 118) := cell_of_row _ _ 0 _ _ _ hbox
      have hlt := (Array.getElem?_eq_some_iff.1 hbox).1
      have hml := hO.len.1
      have hstep : xs.take (i + 1) = xs.take i ++ [x.b] := take_one hXi
      have hdl : (expand rs).length = i := by rw [hX.out, diffs_length, List.length_take, HXL.out]; omega
      have hrl := runs_le hG.out
      have hmi : m ≤ i := by omega
      obtain ⟨D, hD1, hD⟩ : ∃ D : Int, Hid (D = dif a x.b) ∧ wrap64 (x.b - a) = D := ⟨_, rfl, rfl⟩
      have hnew : diffs 0 (xs.take (i + 1)) = diffs 0 (xs.take i) ++ [D] := by rw [hstep, diffs_snoc, hD1.out, ha.out]
      have hend : Hid (x.b = endOf 0 (xs.take (i + 1))) := by show _ = _; rw [hstep, endOf_snoc]
      have HN := Lib.hid hnew
      have HBr := Lib.hid hBr
      have HO := Lib.hid hO
      have HML := Lib.hid hml
      have HDL := Lib.hid hdl
      have hpk := pick_4 x hxop
      clear hnew hstep hXi hbox hBr hO hml hdl hrl hx hxok
      go_wp2_with fail
      refine (hpk _).mono ?_
      rintro e w1 ⟨rfl, hb1⟩
      have hB1 := bstep0 ((Below.refl _ wr).alloc (Nat.le_refl _) _) hb1
      have hsz1 := hB1.size
      have hO1 := HO.out.below hB1
      have HBr1 := Lib.hid (HBr.out.trans (hB1.mono hsz))
      clear hb1 hB1 x0 x1 x2 x3 x4 hf0 HO hpk hlt
      by_cases hm0 : m = 0
      · have hL : (m : Int) - 1 = -1 := by omega
        have hdL : decide ((0 : Int) ≤ -1) = false := by decide
        obtain ⟨w2, hw2⟩ : ∃ w2, Hid (w2 = w1.alloc (.cells #[.int .i64 D, .int .u64 1] 156)) := ⟨_, rfl⟩
        have hb2 : Below w1.heap.size w1 (w1.alloc (.cells #[.int .i64 D, .int .u64 1] 156)) := (Below.refl _ _).alloc (Nat.le_refl _) _
        obtain ⟨v', w3, hap, A2, c2, rfl, hO3, hA3⟩ := or_append (hO1.below hb2) (Nat.le_trans (Nat.le_trans hsz hsz1) hb2.size) 153 (D, 1) (heap_alloc_new _ _) (by rw [← HML.out]; omega)
        have hB3 := (HBr1.out.trans (hb2.mono (Nat.le_trans hsz hsz1))).trans (hA3.below (B := W.heap.size) (Nat.le_trans (Nat.le_trans hsz hsz1) hb2.size) fun b' hb' => (OwnR.type (hO1.below hb2) hb').choose_spec.2)
        have hrs0 : rs = [] := List.eq_nil_of_length_eq_zero (by rw [← HML.out]; exact hm0)
        have hG3 : Hid (Good (rs ++ [(D, 1)])) := by rw [hrs0]; exact ⟨Nat.le_refl _, trivial, trivial⟩
        have hX3 : Hid (expand (rs ++ [(D, 1)]) = diffs 0 (xs.take (i + 1))) := by show _ = _; rw [expand_new, hX.out, HN.out]
        have HO3 := Lib.hid hO3
        have HB3 := Lib.hid hB3
        clear hO1 hb2 hw2 hO3 hA3 hB3 hrs0 hm0 hD1
        go_wp2_with (at_builtin; refine wpList_run _ rfl (.tmp 48) (.tmp 51) 153 rfl (R := fun v' w' => v' = .slice A2 (m + 1) c2 ∧ w' = w3) ⟨_, _, hap, rfl, rfl⟩ ?_; rintro v' w' ⟨rfl, rfl⟩)
        go_roundw
        case rel => exact ⟨i + 1, A2, m + 1, c2, rs ++ [(D, 1)], x.b, by go_num, by omega, rfl, HO3.out, hG3, hX3, rfl, hend, HB3.out⟩
        case measure => simp [intOf]; omega
      · obtain ⟨M, hM⟩ : ∃ M, Hid (m = M + 1) := ⟨m - 1, by show _ = _; omega⟩
        have hL : (m : Int) - 1 = (M : Int) := by have := hM.out; omega
        have hdL : decide ((0 : Int) ≤ (M : Int)) = true := decide_eq_true (by omega)
        have p0 : (0 : Int) ≤ (M : Int) := by omega
        have p1 : (M : Int) < (m : Int) := by rw [hM.out]; omega
        have p2 : M < m := by rw [hM.out]; omega
        obtain ⟨rs', ⟨s, k⟩, hrs⟩ : ∃ rs' r, rs = rs' ++ [r] := by
          rcases List.eq_nil_or_concat rs with h | ⟨rs', r, h⟩
          · rw [h] at HML; exact absurd HML.out (by show m ≠ 0; exact hm0)
          · exact ⟨rs', r, by rw [h, List.concat_eq_append]⟩
        subst hrs
        have hMl : rs'.length = M := by have h1 := HML.out; have h2 := hM.out; rw [List.length_append] at h1; simp at h1; omega
        have hMs : (rs' ++ [(s, k)])[M]? = some (s, k) := by rw [← hMl, List.getElem?_append_right (Nat.le_refl _), Nat.sub_self]; rfl
        obtain ⟨g, rfl, y0, y1, cs, hgc⟩ := hO1.at_ hMs
        have hcap2 := hO1.len.2
        have yf := free_of_row hgc (M * 2 + 1)
        have hkb : k ≤ 1048576 := by
          have h1 := HDL.out
          rw [expand_append, List.length_append] at h1
          have h2 : (expand [(s, k)]).length = k := by show (List.replicate k s ++ []).length = k; rw [List.append_nil, List.length_replicate]
          omega
        have HMl := Lib.hid hMl
        by_cases hsD : s = D
        · have hsd : (s == D) = true := by rw [hsD]; simp
          have hw : IntKind.u64.wrap ((k : Int) + 1) = (k : Int) + 1 := by rw [IntKind.wrap_u64]; omega
          have hO3 := or_put hO1 ((k : Int) + 1) (by omega)
          rw [hMl] at hO3
          have hA3 := Away.setCell w1 ⟨g, M * 2 + 1, none⟩ (.int .u64 ((k : Int) + 1))
          have hB3 := HBr1.out.trans (hA3.below (B := W.heap.size) (Nat.le_trans hsz hsz1) fun b' hb' => by
            subst hb'
            exact (hO1.type rfl).choose_spec.2)
          have hG3 : Hid (Good (rs' ++ [(s, k + 1)])) := good_last hG.out
          have hX3 : Hid (expand (rs' ++ [(s, k + 1)]) = diffs 0 (xs.take (i + 1))) := by show _ = _; rw [expand_last, hX.out, HN.out, hsD]
          have HO3 := Lib.hid hO3
          have HB3 := Lib.hid hB3
          clear hO1 hgc hO3 hA3 hB3 hMs hMl hm0 hD1 hsD
          go_wp2_with fail
          go_roundw
          case rel => exact ⟨i + 1, some ⟨g, 0, none⟩, m, cp, rs' ++ [(s, k + 1)], x.b, by go_num, by omega, rfl, HO3.out, hG3, hX3, rfl, hend, HB3.out⟩
          case measure => simp [intOf]; omega
        · have hsd : (s == D) = false := beq_eq_false_iff_ne.2 hsD
          have hb2 : Below w1.heap.size w1 (w1.alloc (.cells #[.int .i64 D, .int .u64 1] 156)) := (Below.refl _ _).alloc (Nat.le_refl _) _
          obtain ⟨v', w3, hap, A2, c2, rfl, hO3, hA3⟩ := or_append (hO1.below hb2) (Nat.le_trans (Nat.le_trans hsz hsz1) hb2.size) 153 (D, 1) (heap_alloc_new _ _) (by rw [← HML.out]; omega)
          have hB3 := (HBr1.out.trans (hb2.mono (Nat.le_trans hsz hsz1))).trans (hA3.below (B := W.heap.size) (Nat.le_trans (Nat.le_trans hsz hsz1) hb2.size) fun b' hb' => (OwnR.type (hO1.below hb2) hb').choose_spec.2)
          have hG3 : Hid (Good ((rs' ++ [(s, k)]) ++ [(D, 1)])) := good_new hG.out fun r hr => by
            rw [List.getLast?_concat] at hr
            rw [← Option.some.inj hr]
            exact hsD
          have hX3 : Hid (expand ((rs' ++ [(s, k)]) ++ [(D, 1)]) = diffs 0 (xs.take (i + 1))) := by show _ = _; rw [expand_new, hX.out, HN.out]
          have HO3 := Lib.hid hO3
          have HB3 := Lib.hid hB3
          clear hO1 hb2 hgc hO3 hA3 hB3 hMs hMl hm0 hD1 hsD
          go_wp2_with (at_builtin; refine wpList_run _ rfl (.tmp 48) (.tmp 51) 153 rfl (R := fun v' w' => v' = .slice A2 (m + 1) c2 ∧ w' = w3) ⟨_, _, hap, rfl, rfl⟩ ?_; rintro v' w' ⟨rfl, rfl⟩)
          go_roundw
          case rel => exact ⟨i + 1, A2, m + 1, c2, (rs' ++ [(s, k)]) ++ [(D, 1)], x.b, by go_num, by omega, rfl, HO3.out, hG3, hX3, rfl, hend, HB3.out⟩
          case measure => simp [intOf]; omega
    · obtain rfl : n = i := by omega
      have hd : decide ((n : Int) < (n : Int)) = false := by simp
      have hrs : rs = runsOf (diffs 0 xs) := by
        rw [← runsOf_expand rs hG.out, hX.out, List.take_of_length_le (by rw [HXL.out]; exact Nat.le_refl _)]
      have HRS := Lib.hid hrs
      have hB := HBX.out.trans (hBr.mono (by rw [HBS.out]; omega))
      have hO' := hO.mono (base' := w.heap.size) (by rw [HBS.out]; omega)
      clear hrs hO hBr
      go_wp2_with fail
      go_ret
      exact ⟨⟨_, _, _, rfl, by rw [← HRS.out]; exact hO'⟩, hB⟩

set_option maxRecDepth 100000 in
set_option maxHeartbeats 2000000 in
theorem put_4 {w : World} {A : Option Addr} {n c : Nat} {es : List Ev} {r : Raw} {A0 : Option Addr} {m0 c0 : Nat} (h : IsEv w A n c es) (hn : n ≤ 1048576) (hok : ∀ x ∈ es, x.ok) (hr : FRow w r) (hA0 : r.sl = .slice A0 m0 c0) (hm0 : r.c.1.length ≤ 200000000) :
    Calls Try.prog 90 #[.agg #[fnV 118, fnV 119], .slice A0 m0 c0, .slice A n c] w fun e w' => (∃ r' : Raw, e = .returned r'.sl ∧ FRow w' r' ∧ r'.c = (r.c.1 ++ numsBytes (es.map (colGet 4)), r.c.2) ∧ (r'.g = r.g ∨ ∃ b, r'.g = some b ∧ w.heap.size ≤ b)) ∧ Away (fun b => r.g = some b) w w' := by
  have hbox : Below w.heap.size w (w.alloc (.cells #[fnV 118, fnV 119] 133)) := (Below.refl _ _).alloc (Nat.le_refl _) _
  have hrn := runs_4 (h.below hbox) hn hok
  have hxl : (diffs 0 (es.map (colGet 4))).length = n := by rw [diffs_length, List.length_map]; exact h.len
  have hgood := good_runs (diffs 0 (es.map (colGet 4)))
  have hexp := expand_runs (diffs 0 (es.map (colGet 4)))
  have hdin := diffs_in (es.map (colGet 4)) 0
  unfold numsBytes
  generalize runsOf (diffs 0 (es.map (colGet 4))) = rs at hrn hgood hexp ⊢
  have hrm : ∀ x ∈ rs, In64 x.1 ∧ x.2 ≤ 1048576 := fun x hx => by
    have h1 := good_mem hgood hx
    rw [hexp] at h1
    exact ⟨hdin _ h1.1, by omega⟩
  have hrl : rs.length ≤ 1048576 := by
    have := runs_le hgood
    rw [hexp, hxl] at this
    omega
  have HRM := Lib.hid hrm
  have HRN := Lib.hid hrn
  have HRL := Lib.hid hrl
  have HA0 := Lib.hid hA0
  have HR := Lib.hid (hr.away (Away.of_new hbox (fun _ => False)) fun _ _ f => f)
  have HBX := Lib.hid hbox
  clear h hok hrn hxl hgood hexp hdin hrm hbox hA0 hr hrl
  go_enter Try.func90, Try.ntmps90
  go_wp2_with fail
  refine HRN.out.mono ?_
  rintro e W ⟨⟨A', N, cp, rfl, hO⟩, hbW⟩
  have hN := hO.len.1
  have hNc := hO.len.2
  have hBW := HBX.out.trans (hbW.mono HBX.out.size)
  have hrW := HR.out.away (Away.of_new hbW (fun _ => False)) fun _ _ f => f
  have HN := Lib.hid hN
  have hN1 : N ≤ 1048576 := by rw [HN.out]; exact HRL.out
  have HBW := Lib.hid hBW
  have HO := Lib.hid hO
  have HRW := Lib.hid hrW
  clear hbW hBW hrW hO hN HRN
  go_wp2_with fail
  go_loopw [1, 13] (fun out q wr => ∃ (i : Nat) (r' : Raw) (A1 : Option Addr) (m1 c1 : Nat), q = .int .i64 (i : Int) ∧ i ≤ N ∧ out = .slice A1 m1 c1 ∧ Hid (r'.sl = .slice A1 m1 c1) ∧ FRow wr r' ∧ Hid (r'.c = (r.c.1 ++ encRuns (rs.take i), r.c.2)) ∧ Hid (r'.g = r.g ∨ ∃ b, r'.g = some b ∧ W.heap.size ≤ b) ∧ Away (fun b => r.g = some b) W wr)
    (fun _ q _ => N - (intOf q).toNat)
  case atStart => exact ⟨0, r, A0, m0, c0, rfl, Nat.zero_le _, rfl, HA0.out, HRW.out, by show _ = _; simp [encRuns], .inl rfl, Away.refl _ _⟩
  case round =>
    obtain ⟨i, r', A1, m1, c1, rfl, hin, rfl, hsl, hr1, hrc, hrg, hAw⟩ := hrel
    have hOr : OwnR wr (w.alloc (.cells #[fnV 118, fnV 119] 133)).heap.size (.slice A' N cp) rs := HO.out.away hAw fun b hb hg => by
      obtain ⟨cs, hcs, _⟩ := HO.out.type hb
      obtain ⟨cs', hcs'⟩ := row_type HRW.out hg
      rw [hcs] at hcs'; simp at hcs'
    by_cases hi : i < N
    · obtain ⟨⟨s, k⟩, hsk⟩ : ∃ x, rs[i]? = some x := ⟨_, List.getElem?_eq_getElem (by rw [← HN.out]; exact hi)⟩
      obtain ⟨g, rfl, y0, y1, cs, hgc⟩ := hOr.at_ hsk
      have hd : decide ((i : Int) < (N : Int)) = true := decide_eq_true (by omega)
      have q0 : (0 : Int) ≤ (i : Int) := by omega
      have q1 : (i : Int) < (N : Int) := by omega
      obtain ⟨hs64, hk⟩ := HRM.out _ (List.mem_of_getElem? hsk)
      have hs64 : In64 s := hs64
      have hk : k ≤ 1048576 := hk
      have hstep : Hid (encRuns (rs.take (i + 1)) = encRuns (rs.take i) ++ (svar s ++ uvarint k)) := by
        show _ = _
        rw [take_one hsk, encRuns_append]
        show _ ++ ((svar s ++ uvarint k) ++ []) = _
        rw [List.append_nil]
      have hlen : r'.c.1.length ≤ 221000000 := by
        rw [hrc.out]
        show (r.c.1 ++ encRuns (rs.take i)).length ≤ _
        rw [List.length_append]
        have := encRuns_most (rs.take i) fun x hx => by
          have := HRM.out x (List.mem_of_mem_take hx)
          exact ⟨this.1, by omega⟩
        rw [List.length_take] at this
        omega
      have hz := hAw.size
      have HA := Lib.hid hAw
      have HR1 := Lib.hid hr1
      clear hOr hsk hgc hAw hr1
      go_wp2_with fail
      have hbz : (wr.alloc (.cells #[.int .i64 s, .int .u64 (k : Int)] 156)).heap.size = wr.heap.size + 1 := Array.size_push _
      have hblk : (wr.alloc (.cells #[.int .i64 s, .int .u64 (k : Int)] 156)).heap[wr.heap.size]? = some (.cells #[.int .i64 s, .int .u64 (k : Int)] 156 (0, 0)) := heap_alloc_new _ _
      have hbk : Below wr.heap.size wr (wr.alloc (.cells #[.int .i64 s, .int .u64 (k : Int)] 156)) := (Below.refl _ _).alloc (Nat.le_refl _) _
      have HR2 := Lib.hid (HR1.out.away (Away.of_new hbk (fun _ => False)) fun _ _ f => f)
      generalize wr.alloc (.cells #[.int .i64 s, .int .u64 (k : Int)] 156) = wk at hbz hblk hbk HR2 ⊢
      have HBK := Lib.hid hbk
      have HBLK := Lib.hid hblk
      have hkl := (Array.getElem?_eq_some_iff.1 hblk).1
      clear hbk y0 y1
      refine wp_region_held_drew (S := fun w' => w'.cell? ⟨wr.heap.size, 0, none⟩ = some (.int .i64 s) ∧ w'.cell? ⟨wr.heap.size, 1, none⟩ = some (.int .u64 (k : Int))) (by kernel_rfl) ⟨cell_of_row wk _ 0 _ _ _ hblk, cell_of_row wk _ 1 _ _ _ hblk⟩ (fun hHeld => ?_)
      refine wpAnyH_take (i := 0) (v := ?_) rfl (by kernel_rfl) (by kernel_rfl) (by kernel_rfl) (fun _ _ _ h => h) (Or.inl ⟨by rfl, ?_⟩) hHeld ?_
      rotate_left
      · (intro w hSw; obtain ⟨hs0, hs1⟩ := hSw; go_simp <;> rfl)
      simp only [Act.put, List.getElem_toArray, List.getElem_cons_zero, List.getElem_cons_succ, List.setIfInBounds_toArray, List.set_cons_zero, List.set_cons_succ]
      refine wpAnyH_take (i := 1) (v := ?_) rfl (by kernel_rfl) (by kernel_rfl) (by kernel_rfl) (fun _ _ _ h => h) (Or.inl ⟨by rfl, ?_⟩) hHeld ?_
      rotate_left
      · (intro w hSw; obtain ⟨hs0, hs1⟩ := hSw; go_simp <;> rfl)
      simp only [Act.put, List.getElem_toArray, List.getElem_cons_zero, List.getElem_cons_succ, List.setIfInBounds_toArray, List.set_cons_zero, List.set_cons_succ]
      refine wpAnyH_take (i := 2) (v := ?_) rfl (by kernel_rfl) (by kernel_rfl) (by kernel_rfl) (fun _ _ _ h => h) (Or.inl ⟨by rfl, ?_⟩) hHeld ?_
      rotate_left
      · (intro w hSw; obtain ⟨hs0, hs1⟩ := hSw; go_simp <;> rfl)
      simp only [Act.put, List.getElem_toArray, List.getElem_cons_zero, List.getElem_cons_succ, List.setIfInBounds_toArray, List.set_cons_zero, List.set_cons_succ]
      refine wpAnyH_take (i := 4) (v := ?_) rfl (by kernel_rfl) (by kernel_rfl) (by kernel_rfl) (fun _ _ _ h => h) (Or.inl ⟨by rfl, ?_⟩) hHeld ?_
      rotate_left
      · (intro w hSw; obtain ⟨hs0, hs1⟩ := hSw; go_simp <;> rfl)
      simp only [Act.put, List.getElem_toArray, List.getElem_cons_zero, List.getElem_cons_succ, List.setIfInBounds_toArray, List.set_cons_zero, List.set_cons_succ]
      refine wpAnyH_take (i := 5) (v := ?_) rfl (by kernel_rfl) (by kernel_rfl) (by kernel_rfl) (fun _ _ _ h => h) (Or.inl ⟨by rfl, ?_⟩) hHeld ?_
      rotate_left
      · (intro w hSw; obtain ⟨hs0, hs1⟩ := hSw; go_simp <;> rfl)
      simp only [Act.put, List.getElem_toArray, List.getElem_cons_zero, List.getElem_cons_succ, List.setIfInBounds_toArray, List.set_cons_zero, List.set_cons_succ]
      refine wpAnyH_ready (rs := [3]) (by kernel_rfl) (by simp) ?_
      refine AllReadyH.cons rfl (fun K hK => ?_) AllReadyH.nil
      go_simp
      refine (int_any none 0 0 s [] _ (IsB.nil _) (by omega) hs64.1 hs64.2).mono ?_
      rintro e w2 ⟨v, rfl, ho, hb2⟩
      rw [List.nil_append] at ho
      obtain ⟨B, mb, cb, rfl, hI⟩ := own_slice ho
      have hb2' : Below wk.heap.size wk w2 := bstep0 ((Below.refl _ wk).drew) hb2
      have h2 := (hb2'.block _ hkl).trans HBLK.out
      have HI := Lib.hid hI
      have HB2 := Lib.hid hb2'
      have hmb := hI.len
      have hsv : (svar s).length ≤ 10 := svar_most hs64
      unfold svar at hsv
      clear hb2 ho hI hb2'
      dsimp only
      refine hK.out _ _ ⟨cell_of_row w2 _ 0 _ _ _ h2, cell_of_row w2 _ 1 _ _ _ h2⟩ (fun hHeld => ?_)
      clear hK K
      try simp only [Act.put, List.getElem_toArray, List.getElem_cons_zero, List.getElem_cons_succ, List.setIfInBounds_toArray, List.set_cons_zero, List.set_cons_succ]
      refine wpAnyH_ready (rs := [6]) (by kernel_rfl) (by simp) ?_
      refine AllReadyH.cons rfl (fun K hK => ?_) AllReadyH.nil
      go_simp
      refine (uint_any B mb cb k _ w2 HI.out (by omega) (by omega)).mono ?_
      rintro e w3 ⟨v, rfl, ho, hb3⟩
      obtain ⟨B3, mb3, cb3, rfl, hI3⟩ := own_slice ho
      have hz2 := HB2.out.size
      have hB3 : Below wk.heap.size wk w3 := HB2.out.trans (hb3.mono hz2)
      have h3 := (hB3.block _ hkl).trans HBLK.out
      have hr3 := HR2.out.away (Away.of_new hB3 (fun _ => False)) fun _ _ f => f
      have hmb3 := hI3.len
      rw [List.length_append] at hmb3
      have hkv := Lib.uvarint_length64 (x := k) (by omega)
      obtain ⟨v', w4, hap, gg, cap, rfl, hrow, hg, hgr⟩ := rowB hr3 hI3 (by omega) A1 m1 c1 hsl.out 26
      have hag := Away.of_grown hgr
      have hne : ∀ b, r'.g = some b → b ≠ wr.heap.size := fun b hb e => by
        subst e
        obtain ⟨cs', hcs'⟩ := row_type hr3 hb
        rw [h3] at hcs'; simp at hcs'
      have h4 := (hag.block _ (Array.getElem?_eq_some_iff.1 h3).1 (fun e => hne _ e rfl)).trans h3
      have HB3 := Lib.hid hB3
      have HROW := Lib.hid hrow
      have HG := Lib.hid hg
      have HAG := Lib.hid hag
      have HM3 := Lib.hid hmb3
      clear hb3 ho hI3 hr3 hrow hgr hg hag hmb3 hB3
      dsimp only
      refine hK.out _ _ ⟨cell_of_row w3 _ 0 _ _ _ h3, cell_of_row w3 _ 1 _ _ _ h3⟩ (fun hHeld => ?_)
      clear hK K
      try simp only [Act.put, List.getElem_toArray, List.getElem_cons_zero, List.getElem_cons_succ, List.setIfInBounds_toArray, List.set_cons_zero, List.set_cons_succ]
      refine wpAnyH_ready (rs := [7]) (by kernel_rfl) (by simp) ?_
      refine AllReadyH.cons rfl (fun K hK => ?_) AllReadyH.nil
      refine step_run (by simp [Region.wanted]) _ _ 26 rfl (R := fun v' w' => v' = .slice (gg.map fun b => ⟨b, 0, none⟩) (m1 + mb3) cap ∧ w' = w4) ⟨_, _, hap, rfl, rfl⟩ ?_
      rintro v' w' ⟨rfl, rfl⟩
      refine hK.out _ _ ⟨cell_of_row w' _ 0 _ _ _ h4, cell_of_row w' _ 1 _ _ _ h4⟩ (fun hHeld => ?_)
      clear hK K
      try simp only [Act.put, List.getElem_toArray, List.getElem_cons_zero, List.getElem_cons_succ, List.setIfInBounds_toArray, List.set_cons_zero, List.set_cons_succ]
      refine wpAnyH_ready (rs := [8]) (by kernel_rfl) (by simp) ?_
      refine AllReadyH.cons rfl (fun K hK => ?_) AllReadyH.nil
      go_simp
      refine hK.out _ _ ⟨cell_of_row w' _ 0 _ _ _ h4, cell_of_row w' _ 1 _ _ _ h4⟩ (fun hHeld => ?_)
      clear hK K
      try simp only [Act.put, List.getElem_toArray, List.getElem_cons_zero, List.getElem_cons_succ, List.setIfInBounds_toArray, List.set_cons_zero, List.set_cons_succ]
      refine wpAnyH_done (by kernel_rfl) ?_ _
      have hm1 : m1 = r'.c.1.length := sl_same hsl.out
      have hsl2 : Hid (Raw.sl ⟨gg, cap, (r'.c.1 ++ (uvarint (Lib.zigzag s) ++ uvarint k), r'.c.2)⟩ = .slice (gg.map fun b => ⟨b, 0, none⟩) (m1 + mb3) cap) := by
        show _ = _
        unfold Raw.sl
        rw [List.length_append, List.length_append, HM3.out, ← hm1]
      have hrc2 : Hid ((⟨gg, cap, (r'.c.1 ++ (uvarint (Lib.zigzag s) ++ uvarint k), r'.c.2)⟩ : Raw).c = (r.c.1 ++ encRuns (rs.take (i + 1)), r.c.2)) := by
        show _ = _
        rw [hstep.out]
        show (r'.c.1 ++ _, r'.c.2) = _
        rw [hrc.out]
        simp only [List.append_assoc]
        rfl
      have hg2 : Hid ((⟨gg, cap, (r'.c.1 ++ (uvarint (Lib.zigzag s) ++ uvarint k), r'.c.2)⟩ : Raw).g = r.g ∨ ∃ b, (⟨gg, cap, (r'.c.1 ++ (uvarint (Lib.zigzag s) ++ uvarint k), r'.c.2)⟩ : Raw).g = some b ∧ W.heap.size ≤ b) := by
        rcases HG.out with e | e
        · rcases hrg.out with e1 | ⟨b, e1, e2⟩
          · exact .inl (e.trans e1)
          · exact .inr ⟨b, e.trans e1, e2⟩
        · exact .inr ⟨_, e, Nat.le_trans hz (Nat.le_trans HBK.out.size HB3.out.size)⟩
      have hAw2 : Away (fun b => r.g = some b) W w' := by
        have h5 := (HA.out.trans (Away.of_new HBK.out (fun b => r.g = some b)) fun b e => .inl e).trans (Away.of_new HB3.out (fun b => r.g = some b)) fun b e => .inl e
        refine h5.trans HAG.out fun b e => ?_
        rcases hrg.out with e1 | ⟨b', e1, e2⟩
        · exact .inl (e1 ▸ e)
        · rw [e1] at e; injection e with e; subst e; exact .inr e2
      have HROW' := HROW.out
      have HA2 := Lib.hid hAw2
      clear hm1 hAw2 h2 h3 h4 hne hap HAG HG
      go_wp2_with fail
      go_roundw
      case rel => exact ⟨i + 1, ⟨gg, cap, (r'.c.1 ++ (uvarint (Lib.zigzag s) ++ uvarint k), r'.c.2)⟩, _, _, _, by go_num, by omega, rfl, hsl2, HROW', hrc2, hg2, HA2.out⟩
      case measure => simp [intOf]; omega
    · obtain rfl : N = i := by omega
      have hd : decide ((N : Int) < (N : Int)) = false := by simp
      have HA := Lib.hid hAw
      have HR1 := Lib.hid hr1
      clear hOr hAw hr1
      go_wp2_with fail
      go_ret
      refine ⟨⟨r', ?_, HR1.out, ?_, ?_⟩, ?_⟩
      · rw [hsl.out]; rfl
      · rw [hrc.out, List.take_of_length_le (by rw [HN.out]; exact Nat.le_refl _)]
      · rcases hrg.out with e | ⟨b, e, e2⟩
        · exact .inl e
        · exact .inr ⟨b, e, Nat.le_trans HBW.out.size e2⟩
      · exact (Away.of_new HBW.out (fun b => r.g = some b)).trans HA.out fun b e => .inl e
end Go.Proofs.Ytiockkphciadeaa
