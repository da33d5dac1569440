/-
  The column 4, read.
-/
import Derived.Test.YtiockkphciadeaaK7
set_option linter.unusedVariables false
set_option linter.unusedSimpArgs false
namespace Go.Proofs.Ytiockkphciadeaa
open Go.RowKit
open Go.Lib (byteCells byteCells_length byteCells_append uvarint)

set_option maxRecDepth 100000 in
set_option maxHeartbeats 4000000 in
theorem read_4 {w : World} {A : Option Addr} {n c k g N cp : Nat} {b : List UInt8} {es : List Ev} (hI : IsB w A n c b) (hn : n ≤ 1000000) (hk : k ≤ n) (hE : EvB w g es) (hN : es.length = N) (hcp : N ≤ cp) (hNm : N ≤ 1048576) (hok : ∀ x ∈ es, x.op < 256) (hAg : ∀ ad, A = some ad → ad.block < w.heap.size → ad.block ≠ g) :
    Calls Try.prog 121 #[.agg #[fnV 118, fnV 119], .slice A n c, .int .i64 (k : Int), .slice (some ⟨g, 0, none⟩) N cp] w fun e w' =>
      ((rdCol 4 b k es = none ∧ e = .returned (.tuple #[.int .i64 0, .bool false])) ∨ (∃ es' k', rdCol 4 b k es = some (es', k') ∧ e = .returned (.tuple #[.int .i64 (k' : Int), .bool true]) ∧ EvB w' g es' ∧ k' ≤ n)) ∧ Away (fun b => b = g) w w' := by
  obtain ⟨tot, htot⟩ : ∃ t, Hid (rdCol 4 b k es = t) := ⟨_, rfl⟩
  rw [htot.out]
  have hgl := (Array.getElem?_eq_some_iff.1 hE).1
  have hb1 : Below w.heap.size w (w.alloc (.cells #[fnV 118, fnV 119] 133)) := (Below.refl _ _).alloc (Nat.le_refl _) _
  have hs1 : (w.alloc (.cells #[fnV 118, fnV 119] 133)).heap.size = w.heap.size + 1 := Array.size_push _
  have hx1 : (w.alloc (.cells #[fnV 118, fnV 119] 133)).heap[w.heap.size]? = some (.cells #[fnV 118, fnV 119] 133 (0, 0)) := heap_alloc_new _ _
  have hb2 : Below (w.alloc (.cells #[fnV 118, fnV 119] 133)).heap.size (w.alloc (.cells #[fnV 118, fnV 119] 133)) ((w.alloc (.cells #[fnV 118, fnV 119] 133)).alloc (.cells #[.int .i64 0, .int .u64 0] 156)) := (Below.refl _ _).alloc (Nat.le_refl _) _
  have hs2 : ((w.alloc (.cells #[fnV 118, fnV 119] 133)).alloc (.cells #[.int .i64 0, .int .u64 0] 156)).heap.size = w.heap.size + 2 := by rw [show ((w.alloc (.cells #[fnV 118, fnV 119] 133)).alloc (.cells #[.int .i64 0, .int .u64 0] 156)).heap.size = (w.alloc (.cells #[fnV 118, fnV 119] 133)).heap.size + 1 from Array.size_push _, hs1]
  have hx2 : ((w.alloc (.cells #[fnV 118, fnV 119] 133)).alloc (.cells #[.int .i64 0, .int .u64 0] 156)).heap[w.heap.size]? = some (.cells #[fnV 118, fnV 119] 133 (0, 0)) := (hb2.block _ (by rw [hs1]; omega)).trans hx1
  have hy2 : ((w.alloc (.cells #[fnV 118, fnV 119] 133)).alloc (.cells #[.int .i64 0, .int .u64 0] 156)).heap[w.heap.size + 1]? = some (.cells #[.int .i64 0, .int .u64 0] 156 (0, 0)) := by rw [← hs1]; exact heap_alloc_new _ _
  have hB : Below w.heap.size w ((w.alloc (.cells #[fnV 118, fnV 119] 133)).alloc (.cells #[.int .i64 0, .int .u64 0] 156)) := hb1.trans (hb2.mono hb1.size)
  have hE1 := hE.away (Away.of_new hB (fun _ => False)) (fun f => f)
  have HIB := Lib.hid hI
  have HTOT := Lib.hid htot
  have HOK := Lib.hid hok
  have HAG := Lib.hid hAg
  have HNE := Lib.hid hN
  clear hI hE hb1 hb2 hs1 hx1 hok hAg htot hN
  go_enter Try.func121, Try.ntmps121
  go_wp2_with fail
  generalize ((w.alloc (.cells #[fnV 118, fnV 119] 133)).alloc (.cells #[.int .i64 0, .int .u64 0] 156)) = W at hs2 hx2 hy2 hB hE1 ⊢
  have HS2 := Lib.hid hs2
  have HX2 := Lib.hid hx2
  have HB := Lib.hid hB
  have HEW := Lib.hid hE1
  have HY2 := Lib.hid hy2
  clear hs2 hx2 hy2 hB hE1
  go_loopw [2, 3, 11] (fun at_ sl nn wr => ∃ (f k' m3 c3 dl : Nat) (A3 : Option Addr) (ls : Int) (lm : Nat) (x : Int) (done rest : List Ev), at_ = .int .i64 (k' : Int) ∧ k' ≤ n ∧ sl = .slice A3 m3 c3 ∧ m3 ≤ N ∧ Hid (rest.length = m3) ∧ m3 ≤ f ∧ m3 ≤ c3 ∧ Hid (done.length = dl) ∧ Hid (0 < m3 → A3 = some ⟨g, dl * 5, none⟩) ∧ nn = .int .i64 x ∧ EvB wr g (done ++ rest) ∧
    wr.heap[w.heap.size + 1]? = some (.cells #[.int .i64 ls, .int .u64 (lm : Int)] 156 (0, 0)) ∧ Hid (∀ y ∈ done ++ rest, y.op < 256) ∧ Hid ((rdColF 4 b f k' ls lm x rest).map (fun r => (done ++ r.1, r.2)) = tot) ∧ Away (fun b => b = g ∨ b = w.heap.size + 1) W wr)
    (fun _ sl _ _ => lenV sl)
  case atStart => exact ⟨N, k, N, cp, 0, _, 0, 0, 0, [], es, rfl, hk, rfl, Nat.le_refl _, HNE.out, Nat.le_refl _, hcp, rfl, fun _ => by rw [Nat.zero_mul], rfl, HEW.out, HY2.out, HOK.out, by
      show _ = _
      rw [← HTOT.out]
      unfold rdCol
      rw [HNE.out]
      cases rdColF 4 b N k 0 0 0 es <;> rfl, Away.refl _ _⟩
  case round =>
    obtain ⟨f, k', m3, c3, dl, A3, ls, lm, x, done, rest, rfl, hk', rfl, hm3N, hrl, hm3f, hm3c, hdl, hA3, rfl, hE, hy, hop, ht, hAw⟩ := hrel
    have hz := hAw.size
    have hfin : Away (fun b => b = g) w wr := (Away.of_new HB.out (fun b => b = g)).trans hAw fun b hb => by
      rcases hb with h | h
      · exact .inl h
      · exact .inr (by omega)
    by_cases hm0 : 0 < m3
    · obtain rfl := hA3.out hm0
      have hd : decide ((0 : Int) < (m3 : Int)) = true := decide_eq_true (by omega)
      have hIr := HIB.out.awayX hfin fun ad had hlt h => HAG.out ad had hlt h
      have hrun := readRun_any A n c k' b wr hIr hn hk'
      have HRUN := Lib.hid hrun
      have HE := Lib.hid hE
      have HYr := Lib.hid hy
      have HAw := Lib.hid hAw
      have HFIN := Lib.hid hfin
      obtain ⟨e0, es0, hrest⟩ : ∃ e es, rest = e :: es := by
        cases rest with
        | nil => have := hrl.out; simp at this; omega
        | cons e es => exact ⟨e, es, rfl⟩
      obtain ⟨f, rfl⟩ : ∃ f', f = f' + 1 := ⟨f - 1, by omega⟩
      have hun : rdColF 4 b (f + 1) k' ls lm x rest = (match rdRun b k' with
        | none => none
        | some (s, m, k2) => if rest.length < m ∨ (0 < lm ∧ s = ls) then none
          else match layN 4 s m x rest with
            | none => none
            | some (dn, n') => (rdColF 4 b f k2 s m n' (rest.drop m)).map fun r => (dn ++ r.1, r.2)) := by rw [hrest]; rfl
      have HUN := Lib.hid hun
      have hsnd := fun s m k2 (h : rdRun b k' = some (s, m, k2)) => rdRun_sound h
      have hbl := HIB.out.len
      clear hIr hrun hE hy hAw hun hfin
      cases hrr : rdRun b k' with
      | none =>
        rw [hrr] at HRUN HUN
        have ht2 : Hid (tot = none) := by
          show _ = _
          rw [← ht.out, HUN.out]
          rfl
        clear hrr hsnd HUN ht
        unfold ansR at HRUN
        go_wp2_with fail
        refine HRUN.out.mono ?_
        rintro e w1 ⟨rfl, hb1⟩
        have hf1 := HFIN.out.trans (Away.of_new hb1 (fun b => b = g)) fun b h => .inl h
        have hb3 : Below w1.heap.size w1 (w1.alloc (.cells #[.int .i64 0, .int .u64 0] 156)) := (Below.refl _ _).alloc (Nat.le_refl _) _
        have hf2 := hf1.trans (Away.of_new hb3 (fun b => b = g)) fun b h => .inl h
        clear hb1 hf1 hb3
        go_wp2_with fail
        refine bodyPost_ret (v := .tuple #[.int .i64 0, .bool false]) (by simp [results, Try.results121, go_sem]) rfl ⟨.inl ⟨ht2.out, rfl⟩, hf2⟩
      | some q =>
        obtain ⟨s, m, k2⟩ := q
        rw [hrr] at HRUN HUN
        obtain ⟨hs64, hm1, hm64, r0, hr0, hk2⟩ := hsnd s m k2 hrr
        have hk2n : k2 ≤ n := by
          have := congrArg List.length hr0
          rw [List.length_drop, List.length_append, List.length_append] at this
          omega
        clear hrr hsnd hr0 hk2
        unfold ansR at HRUN
        simp only at HRUN HUN
        have hu3 := nat_u64 m3 (by omega)
        by_cases hgt : m3 < m
        · have d2 : decide ((m3 : Int) < (m : Int)) = true := decide_eq_true (by omega)
          have ht2 : Hid (tot = none) := by
            show _ = _
            rw [← ht.out, HUN.out, if_pos (.inl (by rw [hrl.out]; exact hgt))]
            rfl
          clear HUN ht
          go_wp2_with fail
          refine HRUN.out.mono ?_
          rintro e w1 ⟨rfl, hb1⟩
          have hf1 := HFIN.out.trans (Away.of_new hb1 (fun b => b = g)) fun b h => .inl h
          have hb3 : Below w1.heap.size w1 (w1.alloc (.cells #[.int .i64 s, .int .u64 (m : Int)] 156)) := (Below.refl _ _).alloc (Nat.le_refl _) _
          have hf2 := hf1.trans (Away.of_new hb3 (fun b => b = g)) fun b h => .inl h
          clear hb1 hf1 hb3
          go_wp2_with fail
          refine bodyPost_ret (v := .tuple #[.int .i64 0, .bool false]) (by simp [results, Try.results121, go_sem]) rfl ⟨.inl ⟨ht2.out, rfl⟩, hf2⟩
        · have d2 : decide ((m3 : Int) < (m : Int)) = false := decide_eq_false (by omega)
          have d2' : ¬ m3 < m := hgt
          by_cases hls : 0 < lm ∧ s = ls
          · have d3 : decide ((0 : Int) < (lm : Int)) = true := decide_eq_true (by omega)
            have d3' : 0 < lm := hls.1
            have d4 : (s == ls) = true := by rw [hls.2]; simp
            have ht2 : Hid (tot = none) := by
              show _ = _
              rw [← ht.out, HUN.out, if_pos (.inr hls)]
              rfl
            clear HUN ht hls
            go_wp2_with (fail)
            refine HRUN.out.mono ?_
            rintro e w1 ⟨rfl, hb1⟩
            have hf1 := HFIN.out.trans (Away.of_new hb1 (fun b => b = g)) fun b h => .inl h
            have hb3 : Below w1.heap.size w1 (w1.alloc (.cells #[.int .i64 s, .int .u64 (m : Int)] 156)) := (Below.refl _ _).alloc (Nat.le_refl _) _
            have hf2 := hf1.trans (Away.of_new hb3 (fun b => b = g)) fun b h => .inl h
            have hy3 := ((hb1.trans (hb3.mono hb1.size)).block _ (Array.getElem?_eq_some_iff.1 HYr.out).1).trans HYr.out
            have z0 := cell_of_row _ _ 0 _ _ _ hy3
            have z1 := cell_of_row _ _ 1 _ _ _ hy3
            clear hb1 hf1 hb3 hy3
            go_wp2_with fail
            refine bodyPost_ret (v := .tuple #[.int .i64 0, .bool false]) (by simp [results, Try.results121, go_sem]) rfl ⟨.inl ⟨ht2.out, rfl⟩, hf2⟩
          · have HIF : Hid (rdColF 4 b (f + 1) k' ls lm x rest = (match layN 4 s m x rest with
                | none => none
                | some (dn, n') => (rdColF 4 b f k2 s m n' (rest.drop m)).map fun r => (dn ++ r.1, r.2))) := by
              show _ = _
              rw [HUN.out, if_neg (by
                rintro (h | h)
                · rw [hrl.out] at h; exact hgt h
                · exact hls h)]
            clear HUN
            have hcase : (decide ((0 : Int) < (lm : Int)) = false ∧ ¬ 0 < lm) ∨ (decide ((0 : Int) < (lm : Int)) = true ∧ 0 < lm ∧ (s == ls) = false) := by
              by_cases h0 : 0 < lm
              · exact .inr ⟨decide_eq_true (by omega), h0, beq_eq_false_iff_ne.2 fun h => hls ⟨h0, h⟩⟩
              · exact .inl ⟨decide_eq_false (by omega), h0⟩
            obtain ⟨lay, hlay⟩ : ∃ q, Hid (layN 4 s m x rest = q) := ⟨_, rfl⟩
            have hm3m : m ≤ m3 := by omega
            clear hls hgt
            rcases hcase with ⟨d3, d3'⟩ | ⟨d3, d3', d4⟩
            all_goals
              go_wp2_with fail
              refine HRUN.out.mono ?_
              rintro e w1 ⟨rfl, hb1⟩
              have hb3 : Below w1.heap.size w1 (w1.alloc (.cells #[.int .i64 s, .int .u64 (m : Int)] 156)) := (Below.refl _ _).alloc (Nat.le_refl _) _
              have hbb := hb1.trans (hb3.mono hb1.size)
              have hrs : (w1.alloc (.cells #[.int .i64 s, .int .u64 (m : Int)] 156)).heap.size = w1.heap.size + 1 := Array.size_push _
              have hrb : (w1.alloc (.cells #[.int .i64 s, .int .u64 (m : Int)] 156)).heap[w1.heap.size]? = some (.cells #[.int .i64 s, .int .u64 (m : Int)] 156 (0, 0)) := heap_alloc_new _ _
              have hy3 := (hbb.block _ (Array.getElem?_eq_some_iff.1 HYr.out).1).trans HYr.out
              have z0 := cell_of_row _ _ 0 _ _ _ hy3
              have z1 := cell_of_row _ _ 1 _ _ _ hy3
              have h1z := hb1.size
              clear hb1 hb3
              go_wp2_with fail
              clear z0 z1
              generalize w1.alloc (.cells #[.int .i64 s, .int .u64 (m : Int)] 156) = Wr at hbb hrs hrb hy3 ⊢
              have hbx := (hbb.block _ (Nat.lt_of_lt_of_le (by have := HS2.out; omega) hz)).trans ((HAw.out.block w.heap.size (by have := HS2.out; omega) (by rintro (h | h) <;> omega)).trans HX2.out)
              have hEr : EvB Wr g (done ++ rest) := HE.out.away (Away.of_new hbb (fun _ => False)) (fun f => f)
              have HBB := Lib.hid hbb
              have HRS := Lib.hid hrs
              have HRB := Lib.hid hrb
              have HY3 := Lib.hid hy3
              have HBX := Lib.hid hbx
              have HER := Lib.hid hEr
              have HFW := Lib.hid (HFIN.out.trans (Away.of_new hbb (fun b => b = g)) fun b h => .inl h)
              have HAW := Lib.hid (HAw.out.trans (Away.of_new hbb (fun b => b = g ∨ b = w.heap.size + 1)) fun b h => .inl h)
              have hw1z : w.heap.size + 2 ≤ w1.heap.size := by have := HS2.out; omega
              clear hbb hrs hrb hy3 hbx hEr HBB HFIN HAw HE HYr h1z hz HRUN
              go_loopw [11, 48] (fun nn q wq => ∃ (j : Nat) (x1 : Int) (dj : List Ev), q = .int .u64 (j : Int) ∧ j ≤ m ∧ nn = .int .i64 x1 ∧ Hid (dj.length = j) ∧ EvB wq g (done ++ (dj ++ rest.drop j)) ∧ Hid (∀ y ∈ done ++ (dj ++ rest.drop j), y.op < 256) ∧ Hid ((layN 4 s (m - j) x1 (rest.drop j)).map (fun q => (dj ++ q.1, q.2)) = lay) ∧ Away (fun b => b = g) Wr wq)
                (fun _ q _ => m - (intOf q).toNat)
              case atStart => exact ⟨0, x, [], rfl, Nat.zero_le _, rfl, rfl, HER.out, hop, by show _ = _; rw [Nat.sub_zero, List.drop_zero, hlay.out]; cases lay <;> rfl, Away.refl _ _⟩
              case round =>
                obtain ⟨j, x1, dj, rfl, hjm, rfl, hdj, hEq, hopq, hlq, hAq⟩ := hrel
                have hzq := hAq.size
                have hrz := HRS.out
                have hrq := (hAq.block w1.heap.size (by omega) (by omega)).trans HRB.out
                have hbq := (hAq.block w.heap.size (by omega) (by omega)).trans HBX.out
                have hyq := (hAq.block (w.heap.size + 1) (by omega) (by omega)).trans HY3.out
                have r0 := cell_of_row wr _ 0 _ _ _ hrq
                have r1 := cell_of_row wr _ 1 _ _ _ hrq
                have b0 := cell_of_row wr _ 0 _ _ _ hbq
                have b1 := cell_of_row wr _ 1 _ _ _ hbq
                have HRQ := Lib.hid hrq
                have HYQ := Lib.hid hyq
                have HEQ := Lib.hid hEq
                have HAQ := Lib.hid hAq
                have HBQ := Lib.hid hbq
                clear hrq hyq hEq hAq hbq
                by_cases hj : j < m
                · have hd5 : decide ((j : Int) < (m : Int)) = true := decide_eq_true (by omega)
                  have q0 : (0 : Int) ≤ (j : Int) := by omega
                  have q1 : (j : Int) < (m3 : Int) := by omega
                  have q2 : j < m3 := by omega
                  have hw1 : IntKind.u64.wrap ((j : Int) + 1) = (j : Int) + 1 := by rw [IntKind.wrap_u64]; omega
                  obtain ⟨x2, hx2d, hx2⟩ : ∃ v, Hid (wrap64 (x1 + s) = v) ∧ wrap64 (x1 + s) = v := ⟨_, rfl, rfl⟩
                  obtain ⟨e1, he1⟩ : ∃ e, Hid (rest[j]? = some e) := ⟨_, List.getElem?_eq_getElem (by rw [hrl.out]; exact q2)⟩
                  have hdrop : rest.drop j = e1 :: rest.drop (j + 1) := by
                    obtain ⟨h1, h2⟩ := List.getElem?_eq_some_iff.1 he1.out
                    rw [List.drop_eq_getElem_cons h1, h2]
                  have hpos : (done ++ (dj ++ rest.drop j))[dl + j]? = some e1 := by
                    rw [List.getElem?_append_right (by rw [hdl.out]; omega), hdl.out, show dl + j - dl = j by omega, List.getElem?_append_right (by rw [hdj.out]; exact Nat.le_refl _), hdj.out, Nat.sub_self, hdrop]
                    rfl
                  have hset : ∀ y, (done ++ (dj ++ rest.drop j)).set (dl + j) y = done ++ ((dj ++ [y]) ++ rest.drop (j + 1)) := fun y => by
                    rw [List.set_append_right _ _ (by rw [hdl.out]; omega), hdl.out, show dl + j - dl = j by omega, List.set_append_right _ _ (by rw [hdj.out]; exact Nat.le_refl _), hdj.out, Nat.sub_self, hdrop, List.set_cons_zero, List.append_assoc]
                    rfl
                  have hop1 : e1.op < 256 := hopq.out e1 (List.mem_of_getElem? hpos)
                  have hly := layE_4 (w := wr.drew) (q := dl + j) (p := dl * 5 + j * 5) HEQ.out hpos (by rw [Nat.add_mul]) x2
                  rw [hset] at hly
                  obtain ⟨e2, he2⟩ : ∃ e, Hid (colSet 4 e1 x2 = e) := ⟨_, rfl⟩
                  rw [he2.out] at hly
                  have hop2 : e2.op < 256 := by rw [← he2.out]; exact colSet_op 4 e1 x2 hop1
                  have hpos2 : (done ++ ((dj ++ [e2]) ++ rest.drop (j + 1)))[dl + j]? = some e2 := by
                    rw [← hset, List.getElem?_set_self (by have := (List.getElem?_eq_some_iff.1 hpos).1; exact this)]
                  have hopn : Hid (∀ y ∈ done ++ ((dj ++ [e2]) ++ rest.drop (j + 1)), y.op < 256) := fun y hy => by
                    rw [← hset] at hy
                    rcases List.mem_or_eq_of_mem_set hy with h | h
                    · exact hopq.out y h
                    · rw [h]; exact hop2
                  have hlq1 : Hid (lay = if fits 4 x2 = true then (layN 4 s (m - (j + 1)) x2 (rest.drop (j + 1))).map (fun q => ((dj ++ [e2]) ++ q.1, q.2)) else none) := by
                    show _ = _
                    rw [← hlq.out, hdrop, show m - j = (m - (j + 1)) + 1 by omega, layN, hx2d.out, he2.out]
                    split
                    · cases layN 4 s (m - (j + 1)) x2 (rest.drop (j + 1)) with
                      | none => rfl
                      | some q => simp
                    · rfl
                  have HPOS2 := Lib.hid hpos2
                  have HLY := Lib.hid hly
                  clear hdrop hpos hset hop1 hpos2 hlq hly hx2d
                  go_wp2_with fail
                  refine wp_region_held_drew (S := fun w' => w'.cell? ⟨w.heap.size, 1, none⟩ = some (fnV 119)) (by kernel_rfl) b1 (fun hHeld => ?_)
                  refine wpAnyH_take (i := 0) (v := ?_) rfl (by kernel_rfl) (by kernel_rfl) (by kernel_rfl) (fun _ _ _ h => h) (Or.inl ⟨by rfl, ?_⟩) hHeld ?_
                  rotate_left
                  · (intro w hSw; obtain hs1 := hSw; go_simp <;> rfl)
                  simp only [Act.put, List.getElem_toArray, List.getElem_cons_zero, List.getElem_cons_succ, List.setIfInBounds_toArray, List.set_cons_zero, List.set_cons_succ]
                  refine wpAnyH_take (i := 1) (v := ?_) rfl (by kernel_rfl) (by kernel_rfl) (by kernel_rfl) (fun _ _ _ h => h) (Or.inl ⟨by rfl, ?_⟩) hHeld ?_
                  rotate_left
                  · (intro w hSw; obtain hs1 := hSw; go_simp <;> rfl)
                  simp only [Act.put, List.getElem_toArray, List.getElem_cons_zero, List.getElem_cons_succ, List.setIfInBounds_toArray, List.set_cons_zero, List.set_cons_succ]
                  refine wpAnyH_take (i := 2) (v := ?_) rfl (by kernel_rfl) (by kernel_rfl) (by kernel_rfl) (fun _ _ _ h => h) (Or.inl ⟨by rfl, ?_⟩) hHeld ?_
                  rotate_left
                  · (intro w hSw; obtain hs1 := hSw; go_simp <;> rfl)
                  simp only [Act.put, List.getElem_toArray, List.getElem_cons_zero, List.getElem_cons_succ, List.setIfInBounds_toArray, List.set_cons_zero, List.set_cons_succ]
                  refine wpAnyH_take (i := 3) (v := ?_) rfl (by kernel_rfl) (by kernel_rfl) (by kernel_rfl) (fun _ _ _ h => h) (Or.inl ⟨by rfl, ?_⟩) hHeld ?_
                  rotate_left
                  · (intro w hSw; obtain hs1 := hSw; go_simp <;> rfl)
                  simp only [Act.put, List.getElem_toArray, List.getElem_cons_zero, List.getElem_cons_succ, List.setIfInBounds_toArray, List.set_cons_zero, List.set_cons_succ]
                  refine wpAnyH_take (i := 4) (v := ?_) rfl (by kernel_rfl) (by kernel_rfl) (by kernel_rfl) (fun _ _ _ h => h) (Or.inl ⟨by rfl, ?_⟩) hHeld ?_
                  rotate_left
                  · (intro w hSw; obtain hs1 := hSw; go_simp <;> rfl)
                  simp only [Act.put, List.getElem_toArray, List.getElem_cons_zero, List.getElem_cons_succ, List.setIfInBounds_toArray, List.set_cons_zero, List.set_cons_succ]
                  refine wpAnyH_take (i := 5) (v := ?_) rfl (by kernel_rfl) (by kernel_rfl) (by kernel_rfl) (fun _ _ _ h => h) (Or.inl ⟨by rfl, ?_⟩) hHeld ?_
                  rotate_left
                  · (intro w hSw; obtain hs1 := hSw; go_simp <;> rfl)
                  simp only [Act.put, List.getElem_toArray, List.getElem_cons_zero, List.getElem_cons_succ, List.setIfInBounds_toArray, List.set_cons_zero, List.set_cons_succ]
                  refine wpAnyH_ready (rs := [6]) (by kernel_rfl) (by simp) ?_
                  refine AllReadyH.cons rfl (fun K hK => ?_) AllReadyH.nil
                  go_simp
                  refine HLY.out.mono ?_
                  rintro e w2 ⟨rfl, hE2, hA2⟩
                  have hb2 := (hA2.block w.heap.size (by show _ < wr.heap.size; omega) (by omega)).trans HBQ.out
                  have c0 := cell_of_row w2 _ 0 _ _ _ hb2
                  dsimp only
                  refine hK.out _ _ (cell_of_row w2 _ 1 _ _ _ hb2) (fun hHeld => ?_)
                  clear hK K
                  try simp only [Act.put, List.getElem_toArray, List.getElem_cons_zero, List.getElem_cons_succ, List.setIfInBounds_toArray, List.set_cons_zero, List.set_cons_succ]
                  refine wpAnyH_done (by kernel_rfl) ?_ _
                  have v0 := hE2.cell HPOS2.out (f := 0) (by omega) rfl
                  have v1 := hE2.cell HPOS2.out (f := 1) (by omega) rfl
                  have v2 := hE2.cell HPOS2.out (f := 2) (by omega) rfl
                  have v3 := hE2.cell HPOS2.out (f := 3) (by omega) rfl
                  have v4 := hE2.cell HPOS2.out (f := 4) (by omega) rfl
                  rw [Nat.add_mul] at v0 v1 v2 v3 v4
                  have v0 : w2.cell? ⟨g, dl * 5 + j * 5, none⟩ = some (.int .i64 e2.th) := v0
                  have hzz : wr.heap.size ≤ w2.heap.size := hA2.size
                  have HE2 := Lib.hid hE2
                  have HA2 : Hid (Away (fun b => b = g) wr w2) := ((Away.refl (fun b => b = g) wr).drew).trans hA2 fun b h => .inl h
                  have hpk := pick_4 e2 hop2
                  clear hE2 hA2 b0 b1 r0 r1 hb2
                  go_wp2_with fail
                  refine wp_region_held_drew (S := fun w' => w'.cell? ⟨w.heap.size, 0, none⟩ = some (fnV 118) ∧ w'.cell? ⟨g, dl * 5 + j * 5, none⟩ = some (.int .i64 e2.th) ∧ w'.cell? ⟨g, dl * 5 + j * 5 + 1, none⟩ = some (.int .u8 (e2.op : Int)) ∧ w'.cell? ⟨g, dl * 5 + j * 5 + 2, none⟩ = some (.int .i64 e2.obj) ∧ w'.cell? ⟨g, dl * 5 + j * 5 + 3, none⟩ = some (.int .i64 e2.a) ∧ w'.cell? ⟨g, dl * 5 + j * 5 + 4, none⟩ = some (.int .i64 e2.b)) (by kernel_rfl) ⟨c0, v0, v1, v2, v3, v4⟩ (fun hHeld => ?_)
                  refine wpAnyH_take (i := 0) (v := ?_) rfl (by kernel_rfl) (by kernel_rfl) (by kernel_rfl) (fun _ _ _ h => h) (Or.inl ⟨by rfl, ?_⟩) hHeld ?_
                  rotate_left
                  · (intro w hSw; obtain ⟨hs0, hs1, hs2, hs3, hs4, hs5⟩ := hSw; go_simp <;> rfl)
                  simp only [Act.put, List.getElem_toArray, List.getElem_cons_zero, List.getElem_cons_succ, List.setIfInBounds_toArray, List.set_cons_zero, List.set_cons_succ]
                  refine wpAnyH_take (i := 1) (v := ?_) rfl (by kernel_rfl) (by kernel_rfl) (by kernel_rfl) (fun _ _ _ h => h) (Or.inl ⟨by rfl, ?_⟩) hHeld ?_
                  rotate_left
                  · (intro w hSw; obtain ⟨hs0, hs1, hs2, hs3, hs4, hs5⟩ := hSw; go_simp <;> rfl)
                  simp only [Act.put, List.getElem_toArray, List.getElem_cons_zero, List.getElem_cons_succ, List.setIfInBounds_toArray, List.set_cons_zero, List.set_cons_succ]
                  refine wpAnyH_take (i := 2) (v := ?_) rfl (by kernel_rfl) (by kernel_rfl) (by kernel_rfl) (fun _ _ _ h => h) (Or.inl ⟨by rfl, ?_⟩) hHeld ?_
                  rotate_left
                  · (intro w hSw; obtain ⟨hs0, hs1, hs2, hs3, hs4, hs5⟩ := hSw; go_simp <;> rfl)
                  simp only [Act.put, List.getElem_toArray, List.getElem_cons_zero, List.getElem_cons_succ, List.setIfInBounds_toArray, List.set_cons_zero, List.set_cons_succ]
                  refine wpAnyH_take (i := 3) (v := ?_) rfl (by kernel_rfl) (by kernel_rfl) (by kernel_rfl) (fun _ _ _ h => h) (Or.inl ⟨by rfl, ?_⟩) hHeld ?_
                  rotate_left
                  · (intro w hSw; obtain ⟨hs0, hs1, hs2, hs3, hs4, hs5⟩ := hSw; go_simp <;> rfl)
                  simp only [Act.put, List.getElem_toArray, List.getElem_cons_zero, List.getElem_cons_succ, List.setIfInBounds_toArray, List.set_cons_zero, List.set_cons_succ]
                  refine wpAnyH_take (i := 4) (v := ?_) rfl (by kernel_rfl) (by kernel_rfl) (by kernel_rfl) (fun _ _ _ h => h) (Or.inl ⟨by rfl, ?_⟩) hHeld ?_
                  rotate_left
                  · (intro w hSw; obtain ⟨hs0, hs1, hs2, hs3, hs4, hs5⟩ := hSw; go_simp <;> rfl)
                  simp only [Act.put, List.getElem_toArray, List.getElem_cons_zero, List.getElem_cons_succ, List.setIfInBounds_toArray, List.set_cons_zero, List.set_cons_succ]
                  refine wpAnyH_take (i := 5) (v := ?_) rfl (by kernel_rfl) (by kernel_rfl) (by kernel_rfl) (fun _ _ _ h => h) (Or.inl ⟨by rfl, ?_⟩) hHeld ?_
                  rotate_left
                  · (intro w hSw; obtain ⟨hs0, hs1, hs2, hs3, hs4, hs5⟩ := hSw; go_simp <;> rfl)
                  simp only [Act.put, List.getElem_toArray, List.getElem_cons_zero, List.getElem_cons_succ, List.setIfInBounds_toArray, List.set_cons_zero, List.set_cons_succ]
                  refine wpAnyH_take (i := 7) (v := ?_) rfl (by kernel_rfl) (by kernel_rfl) (by kernel_rfl) (fun _ _ _ h => h) (Or.inl ⟨by rfl, ?_⟩) hHeld ?_
                  rotate_left
                  · (intro w hSw; obtain ⟨hs0, hs1, hs2, hs3, hs4, hs5⟩ := hSw; go_simp <;> rfl)
                  simp only [Act.put, List.getElem_toArray, List.getElem_cons_zero, List.getElem_cons_succ, List.setIfInBounds_toArray, List.set_cons_zero, List.set_cons_succ]
                  refine wpAnyH_ready (rs := [6]) (by kernel_rfl) (by simp) ?_
                  refine AllReadyH.cons rfl (fun K hK => ?_) AllReadyH.nil
                  go_simp
                  refine (hpk _).mono ?_
                  rintro e w3 ⟨rfl, hb3⟩
                  have hb3 : Below w2.heap.size w2 w3 := bstep0 ((Below.refl _ w2).drew) hb3
                  dsimp only
                  refine hK.out _ _ ⟨cell_below hb3 _ _ c0, cell_below hb3 _ _ v0, cell_below hb3 _ _ v1, cell_below hb3 _ _ v2, cell_below hb3 _ _ v3, cell_below hb3 _ _ v4⟩ (fun hHeld => ?_)
                  clear hK K
                  try simp only [Act.put, List.getElem_toArray, List.getElem_cons_zero, List.getElem_cons_succ, List.setIfInBounds_toArray, List.set_cons_zero, List.set_cons_succ]
                  refine wpAnyH_take (i := 8) (v := ?_) rfl (by kernel_rfl) (by kernel_rfl) (by kernel_rfl) (fun _ _ _ h => h) (Or.inl ⟨by rfl, ?_⟩) hHeld ?_
                  rotate_left
                  · (intro w hSw; obtain ⟨hs0, hs1, hs2, hs3, hs4, hs5⟩ := hSw; go_simp <;> rfl)
                  simp only [Act.put, List.getElem_toArray, List.getElem_cons_zero, List.getElem_cons_succ, List.setIfInBounds_toArray, List.set_cons_zero, List.set_cons_succ]
                  refine wpAnyH_done (by kernel_rfl) ?_ _
                  have hE3 := HE2.out.away (Away.of_new hb3 (fun _ => False)) (fun f => f)
                  have hA3' := (HAQ.out.trans HA2.out fun b h => .inl h).trans (Away.of_new hb3 (fun b => b = g)) fun b h => .inl h
                  clear v0 v1 v2 v3 v4 c0 hHeld
                  by_cases hfit : fits 4 x2 = true
                  · have hq : (e2.b != x2) = false := by
                      have h1 := colGet_set hfit e1
                      rw [he2.out] at h1
                      have h2 : e2.b = x2 := h1
                      rw [h2]; simp
                    have hl2 : Hid ((layN 4 s (m - (j + 1)) x2 (rest.drop (j + 1))).map (fun q => ((dj ++ [e2]) ++ q.1, q.2)) = lay) := by
                      show _ = _
                      rw [hlq1.out, if_pos hfit]
                    have HE3 := Lib.hid hE3
                    have HA3' := Lib.hid hA3'
                    have hdj2 : Hid ((dj ++ [e2]).length = j + 1) := by show _ = _; rw [List.length_append, hdj.out]; rfl
                    clear hE3 hA3' hlq1 hb3
                    go_wp2_with fail
                    go_roundw
                    case rel => exact ⟨j + 1, x2, dj ++ [e2], by go_num, by omega, rfl, hdj2, HE3.out, hopn, hl2, HA3'.out⟩
                    case measure => simp [intOf]; omega
                  · exact absurd rfl hfit
                · obtain rfl : m = j := by omega
                  have hd5 : decide ((m : Int) < (m : Int)) = false := by simp
                  have hlay2 : Hid (lay = some (dj, x1)) := by
                    show _ = _
                    rw [← hlq.out, Nat.sub_self]
                    show some (dj ++ [], x1) = _
                    rw [List.append_nil]
                  have ht2 : Hid ((rdColF 4 b f k2 s m x1 (rest.drop m)).map (fun r => ((done ++ dj) ++ r.1, r.2)) = tot) := by
                    show _ = _
                    rw [← ht.out, HIF.out, hlay.out, hlay2.out]
                    simp only [Option.map_map]
                    congr 1
                    funext r
                    simp
                  have hcut := fun W : World => run_fromE W (some ⟨g, dl * 5, none⟩) m3 c3 m (by omega)
                  obtain ⟨A4, hA4⟩ : ∃ A4, Hid (A4 = (if c3 = m then some (⟨g, dl * 5, none⟩ : Addr) else (some (⟨g, dl * 5, none⟩ : Addr)).map (·.add (m * 5)))) := ⟨_, rfl⟩
                  have hA4' : Hid (0 < m3 - m → A4 = some ⟨g, (dl + m) * 5, none⟩) := fun h => by
                    rw [hA4.out, if_neg (by omega)]
                    show some ((⟨g, dl * 5, none⟩ : Addr).add (m * 5)) = _
                    rw [Addr.add_lit, Nat.add_mul]
                  rw [← hA4.out] at hcut
                  obtain ⟨m4, hm4⟩ : ∃ m4, Hid (m4 = m3 - m) := ⟨_, rfl⟩
                  obtain ⟨c4, hc4⟩ : ∃ c4, Hid (c4 = c3 - m) := ⟨_, rfl⟩
                  rw [← hm4.out, ← hc4.out] at hcut
                  have yq0 : wr.cell? ⟨w.heap.size + 1, 0, none⟩ = some (.int .i64 ls) := cell_of_row _ _ 0 _ _ _ HYQ.out
                  have yq1 : wr.cell? ⟨w.heap.size + 1, 1, none⟩ = some (.int .u64 (lm : Int)) := cell_of_row _ _ 1 _ _ _ HYQ.out
                  have yf0 : wr.frozen? ⟨w.heap.size + 1, 0, none⟩ = false := free_of_row HYQ.out 0
                  have yf1 : wr.frozen? ⟨w.heap.size + 1, 1, none⟩ = false := free_of_row HYQ.out 1
                  clear b0 b1
                  go_wp2_with fail
                  refine wp_region_held_drew (S := fun w' => w'.cell? ⟨w1.heap.size, 0, none⟩ = some (.int .i64 s) ∧ w'.cell? ⟨w1.heap.size, 1, none⟩ = some (.int .u64 (m : Int))) (by kernel_rfl) ⟨r0, r1⟩ (fun hHeld => ?_)
                  refine wpAnyH_take (i := 0) (v := ?_) rfl (by kernel_rfl) (by kernel_rfl) (by kernel_rfl) (fun _ _ _ h => h) (Or.inl ⟨by rfl, ?_⟩) hHeld ?_
                  rotate_left
                  · (intro w hSw; obtain ⟨hs0, hs1⟩ := hSw; go_simp <;> rfl)
                  simp only [Act.put, List.getElem_toArray, List.getElem_cons_zero, List.getElem_cons_succ, List.setIfInBounds_toArray, List.set_cons_zero, List.set_cons_succ]
                  refine wpAnyH_take (i := 1) (v := ?_) rfl (by kernel_rfl) (by kernel_rfl) (by kernel_rfl) (fun _ _ _ h => h) (Or.inl ⟨by rfl, ?_⟩) hHeld ?_
                  rotate_left
                  · (intro w hSw; obtain ⟨hs0, hs1⟩ := hSw; go_simp <;> rfl)
                  simp only [Act.put, List.getElem_toArray, List.getElem_cons_zero, List.getElem_cons_succ, List.setIfInBounds_toArray, List.set_cons_zero, List.set_cons_succ]
                  refine wpAnyH_take (i := 2) (v := ?_) rfl (by kernel_rfl) (by kernel_rfl) (by kernel_rfl) (fun _ _ _ h => h) (Or.inl ⟨by rfl, ?_⟩) hHeld ?_
                  rotate_left
                  · (intro w hSw; obtain ⟨hs0, hs1⟩ := hSw; go_simp <;> rfl)
                  simp only [Act.put, List.getElem_toArray, List.getElem_cons_zero, List.getElem_cons_succ, List.setIfInBounds_toArray, List.set_cons_zero, List.set_cons_succ]
                  refine wpAnyH_take (i := 3) (v := ?_) rfl (by kernel_rfl) (by kernel_rfl) (by kernel_rfl) (fun _ _ _ h => h) (Or.inl ⟨by rfl, ?_⟩) hHeld ?_
                  rotate_left
                  · (intro w hSw; obtain ⟨hs0, hs1⟩ := hSw; go_simp <;> rfl)
                  simp only [Act.put, List.getElem_toArray, List.getElem_cons_zero, List.getElem_cons_succ, List.setIfInBounds_toArray, List.set_cons_zero, List.set_cons_succ]
                  refine wpAnyH_take (i := 4) (v := ?_) rfl (by kernel_rfl) (by kernel_rfl) (by kernel_rfl) (fun _ _ _ h => h) (Or.inl ⟨by rfl, ?_⟩) hHeld ?_
                  rotate_left
                  · (intro w hSw; obtain ⟨hs0, hs1⟩ := hSw; go_simp <;> rfl)
                  simp only [Act.put, List.getElem_toArray, List.getElem_cons_zero, List.getElem_cons_succ, List.setIfInBounds_toArray, List.set_cons_zero, List.set_cons_succ]
                  refine wpAnyH_take (i := 5) (v := ?_) rfl (by kernel_rfl) (by kernel_rfl) (by kernel_rfl) (fun _ _ _ h => h) (Or.inl ⟨by rfl, ?_⟩) hHeld ?_
                  rotate_left
                  · (intro w hSw; obtain ⟨hs0, hs1⟩ := hSw; go_simp <;> rfl)
                  simp only [Act.put, List.getElem_toArray, List.getElem_cons_zero, List.getElem_cons_succ, List.setIfInBounds_toArray, List.set_cons_zero, List.set_cons_succ]
                  refine wpAnyH_take (i := 6) (v := ?_) rfl (by kernel_rfl) (by kernel_rfl) (by kernel_rfl) (fun _ _ _ h => h) (Or.inl ⟨by rfl, ?_⟩) hHeld ?_
                  rotate_left
                  · (intro w hSw; obtain ⟨hs0, hs1⟩ := hSw; go_simp <;> rfl)
                  simp only [Act.put, List.getElem_toArray, List.getElem_cons_zero, List.getElem_cons_succ, List.setIfInBounds_toArray, List.set_cons_zero, List.set_cons_succ]
                  refine wpAnyH_take (i := 7) (v := ?_) rfl (by kernel_rfl) (by kernel_rfl) (by kernel_rfl) (fun _ _ _ h => h) (Or.inl ⟨by rfl, ?_⟩) hHeld ?_
                  rotate_left
                  · (intro w hSw; obtain ⟨hs0, hs1⟩ := hSw; go_simp <;> rfl)
                  simp only [Act.put, List.getElem_toArray, List.getElem_cons_zero, List.getElem_cons_succ, List.setIfInBounds_toArray, List.set_cons_zero, List.set_cons_succ]
                  have hS1 := Away.setCell wr ⟨w.heap.size + 1, 0, none⟩ (.int .i64 s)
                  have hS2 := Away.setCell (wr.setCell ⟨w.heap.size + 1, 0, none⟩ (.int .i64 s)) ⟨w.heap.size + 1, 1, none⟩ (.int .u64 (m : Int))
                  have hS3 := (((Away.refl (fun b => b = w.heap.size + 1) wr).trans hS1 fun b h => .inl h).trans hS2 fun b h => .inl h).drew
                  have hy5 : ((wr.setCell ⟨w.heap.size + 1, 0, none⟩ (.int .i64 s)).setCell ⟨w.heap.size + 1, 1, none⟩ (.int .u64 (m : Int))).drew.heap[w.heap.size + 1]? = some (.cells #[.int .i64 s, .int .u64 (m : Int)] 156 (0, 0)) := by
                    have h1 : (wr.setCell ⟨w.heap.size + 1, 0, none⟩ (.int .i64 s)).heap[w.heap.size + 1]? = _ := set_blk (w := wr) HYQ.out 0 (.int .i64 s)
                    have h2 := set_blk h1 1 (.int .u64 (m : Int))
                    exact h2
                  have hr5 := (hS3.block w1.heap.size (Array.getElem?_eq_some_iff.1 HRQ.out).1 (by omega)).trans HRQ.out
                  have hE5 : EvB ((wr.setCell ⟨w.heap.size + 1, 0, none⟩ (.int .i64 s)).setCell ⟨w.heap.size + 1, 1, none⟩ (.int .u64 (m : Int))).drew g ((done ++ dj) ++ rest.drop m) := by
                    rw [List.append_assoc]
                    exact HEQ.out.away hS3 (by omega)
                  have hA5 := (HAW.out.trans HAQ.out fun b h => .inl (.inl h)).trans hS3 fun b h => .inl (.inr h)
                  refine wpAnyH_ready (rs := [8]) (by kernel_rfl) (by simp) ?_
                  refine AllReadyH.cons rfl (fun K hK => ?_) AllReadyH.nil
                  go_simp
                  refine hK.out _ _ ⟨cell_of_row _ _ 0 _ _ _ hr5, cell_of_row _ _ 1 _ _ _ hr5⟩ (fun hHeld => ?_)
                  clear hK K
                  try simp only [Act.put, List.getElem_toArray, List.getElem_cons_zero, List.getElem_cons_succ, List.setIfInBounds_toArray, List.set_cons_zero, List.set_cons_succ]
                  refine wpAnyH_done (by kernel_rfl) ?_ _
                  have hop5 : Hid (∀ y ∈ (done ++ dj) ++ rest.drop m, y.op < 256) := by rw [List.append_assoc]; exact hopq.out
                  have hrl5 : Hid ((rest.drop m).length = m4) := by show _ = _; rw [List.length_drop, hrl.out, hm4.out]
                  have hdl5 : Hid ((done ++ dj).length = dl + m) := by show _ = _; rw [List.length_append, hdl.out, hdj.out]
                  rw [← hm4.out] at hA4'
                  have b1 : m4 ≤ N := by rw [hm4.out]; omega
                  have b2 : m4 ≤ f := by rw [hm4.out]; omega
                  have b3 : m4 ≤ c4 := by rw [hm4.out, hc4.out]; omega
                  have b4 : m4 < m3 := by rw [hm4.out]; omega
                  have b5 : m ≤ 1048576 := by omega
                  have HE5 := Lib.hid hE5
                  have HY5 := Lib.hid hy5
                  have HA5 := Lib.hid hA5
                  clear hE5 hy5 hA5 hr5 hS1 hS2 hS3 r0 r1 yq0 yq1 yf0 yf1 hHeld
                  go_wp2_with fail
                  go_roundw
                  case rel => exact ⟨f, k2, m4, c4, dl + m, A4, s, m, x1, done ++ dj, rest.drop m, rfl, hk2n, rfl, b1, hrl5, b2, b3, hdl5, hA4', rfl, HE5.out, HY5.out, hop5, ht2, HA5.out⟩
                  case measure => exact b4
    · obtain rfl : m3 = 0 := by omega
      obtain rfl : rest = [] := List.eq_nil_of_length_eq_zero hrl.out
      have hd : decide ((0 : Int) < ((0 : Nat) : Int)) = false := by decide
      have ht2 : Hid (tot = some (done, k')) := by
        show _ = _
        rw [← ht.out]
        cases f <;> simp [rdColF]
      rw [List.append_nil] at hE
      have HE := Lib.hid hE
      have HFIN := Lib.hid hfin
      clear hE hfin hAw hy hop ht hA3
      go_wp2_with fail
      refine bodyPost_ret (v := .tuple #[.int .i64 (k' : Int), .bool true]) (by simp [results, Try.results121, go_sem]) rfl ⟨.inr ⟨done, k', ht2.out, rfl, HE.out, hk'⟩, HFIN.out⟩
end Go.Proofs.Ytiockkphciadeaa
