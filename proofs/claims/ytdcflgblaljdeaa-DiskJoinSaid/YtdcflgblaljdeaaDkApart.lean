/-
  DiskApart: what is done to other files changes nothing of a file: not its bytes, not what of it is synced.
-/
import Derived.Test.YtdcflgblaljdeaaDkDoes
import Derived.Test.YtdcflgblaljdeaaDkAwake
import Derived.Test.YtdcflgblaljdeaaOpen
import Derived.Deep.RegionHeld3
import Derived.Outline
set_option linter.unusedVariables false
set_option linter.unusedSimpArgs false
namespace Go.Proofs.Ytdcflgblaljdeaa
open Go.RowKit Go.Maps

theorem lists_neD {s t : ByteArray} (h : ¬ s = t) : (s.toList == t.toList) = false := by
  rw [Lib.toList_data, Lib.toList_data]
  exact beq_false_of_ne fun hh => h (Go.WideShapes.bytes_inj hh)
theorem op_free {s : St} (hl : s.left = none) (hd : s.down = false) (f : List (Nm × Fc) → List (Nm × Fc)) : s.op f = ({ s with fs := f s.fs }, 0) := by
  obtain ⟨m, fs, l, d⟩ := s
  subst hl
  rfl
/-- what is done to other files -/
theorem does_apart {s : St} (hw : s.wf) (hl : s.left = none) (hd : s.down = false) (o : OpV) (h9 : o.kind ≠ 9) (h10 : o.kind ≠ 10) :
    (s.does o).1.left = none ∧ (s.does o).1.down = false ∧ (∀ k : Nm, o.name.data.toList ≠ k → (o.kind = 6 → o.to.data.toList ≠ k) → aget k (s.does o).1.fs = aget k s.fs) := by
  have hr := hw.rise
  have hop := op_free hl hd
  unfold St.does
  split
  · unfold St.append
    rw [hd]
    split
    · exact ⟨hl, hd, fun k _ _ => rfl⟩
    split
    · exact ⟨hl, hd, fun k _ _ => rfl⟩
    split
    · exact ⟨hl, hd, fun k _ _ => rfl⟩
    · rw [hop]
      exact ⟨hl, hd, fun k h1 _ => aget_aput_other hr (fun e => h1 e.symm) _⟩
  split
  · unfold St.sync
    rw [hd]
    split
    · exact ⟨hl, hd, fun k _ _ => rfl⟩
    split
    · exact ⟨hl, hd, fun k _ _ => rfl⟩
    · rw [hop]
      exact ⟨hl, hd, fun k h1 _ => aget_aput_other hr (fun e => h1 e.symm) _⟩
  split
  · rename_i h6
    unfold St.rename
    rw [hd]
    split
    · exact ⟨hl, hd, fun k _ _ => rfl⟩
    split
    · exact ⟨hl, hd, fun k _ _ => rfl⟩
    split
    · exact ⟨hl, hd, fun k _ _ => rfl⟩
    · rw [hop]
      exact ⟨hl, hd, fun k h1 h2 => (aget_aput_other (rising_adel hr _) (fun e => h2 h6 e.symm) _).trans (aget_adel_other hr fun e => h1 e.symm)⟩
  split
  · unfold St.remove
    rw [hd]
    split
    · exact ⟨hl, hd, fun k _ _ => rfl⟩
    split
    · exact ⟨hl, hd, fun k _ _ => rfl⟩
    · rw [hop]
      exact ⟨hl, hd, fun k h1 _ => aget_adel_other hr fun e => h1 e.symm⟩
  split
  · unfold St.cut
    rw [hd]
    split
    · exact ⟨hl, hd, fun k _ _ => rfl⟩
    split
    · exact ⟨hl, hd, fun k _ _ => rfl⟩
    split
    · exact ⟨hl, hd, fun k _ _ => rfl⟩
    · rw [hop]
      exact ⟨hl, hd, fun k h1 _ => aget_aput_other hr (fun e => h1 e.symm) _⟩
  exact ⟨hl, hd, fun k _ _ => rfl⟩
theorem read_like {s t : St} (hd : t.down = s.down) {k : Nm} (h : aget k t.fs = aget k s.fs) : t.read k = s.read k := by
  unfold St.read
  rw [hd, h]

section
variable {w : World} {F : Nat → Prop} {a : Nat} {s : St}
theorem d_read (h : Dk w F a s) (nm : ByteArray) (hnm : nm.size ≤ maxLen) {l : List UInt8} {er : Nat} (he : s.read nm.data.toList = (l, er)) :
    Calls Try.prog 16 #[.pointer (some ⟨a, 0, none⟩), .string nm] w fun e w' =>
      ∃ A n c, e = .returned (.tuple #[.slice A n c, .int .i64 (er : Int)]) ∧ IsB w' A n c l ∧ (∀ ad, A = some ad → w.heap.size ≤ ad.block) ∧ Below w.heap.size w w' := by
  refine (read_any h nm hnm).mono ?_
  rw [he]
  rintro e w' ⟨v, rfl, ho, hb⟩
  obtain ⟨A, c, rfl, hI, _⟩ := own_is ho
  refine ⟨A, _, c, rfl, hI, fun ad hA => ?_, hb⟩
  subst hA
  exact (World.ownsRow.lt ho ad.block rfl).1
end
theorem IsB.away {F : Nat → Prop} {w w' : World} {A : Option Addr} {n c : Nat} {l : List UInt8} (h : IsB w A n c l) (ha : Away F w w') (hf : ∀ ad, A = some ad → ¬ F ad.block) : IsB w' A n c l := by
  refine ⟨h.len, h.cap, h.none_, ?_⟩
  rcases h.src with h0 | ⟨b, o, hA, hc⟩
  · exact .inl h0
  · exact .inr ⟨b, o, hA, fun j z hj => away_cell ha (show ¬ F b from hf ⟨b, o, none⟩ hA) (hc j z hj)⟩

set_option maxRecDepth 100000 in
set_option maxHeartbeats 2000000 in
theorem apart_walk (w : World) (A : Option Addr) (n c : Nat) (xs : List OpC) (h : IsL 6 (fun cs x => cs = x.cells ∧ x.ok w) w A n c xs) :
    Calls Try.prog 7 #[.slice A n c] w fun e w' => e = .returned (.bool true) ∧ Below w.heap.size w w' := by
  have hm := h.max
  have hcap := h.cap
  unfold maxLen at hm
  go_enter Try.func7, Try.ntmps7
  go_wp2_with fail
  refine (s_new 1000 (by omega) (Below.refl _ _)).mono ?_
  rintro e w1 ⟨a, rfl, h1⟩
  go_wp2_with fail
  go_loopw [5] (fun q wr => ∃ (j : Nat) (s : St), q = .int .i64 (j : Int) ∧ j ≤ n ∧ j ≤ 50 ∧ Hid (s.left = none) ∧ Hid (s.down = false) ∧ Sess w wr a s) (fun q _ => n - (intOf q).toNat)
  case atStart => exact ⟨0, St.new 1000, rfl, by omega, by omega, rfl, rfl, h1⟩
  case round =>
    clear h1
    obtain ⟨j, s, rfl, hj, hj5, hl, hd, hS⟩ := hrel
    by_cases hjn : j < n ∧ j < 50
    · obtain ⟨hjn, hj50⟩ := hjn
      obtain ⟨b, o, x, cs, rfl, hx, _, hat, rfl, hok⟩ := h.at_ hjn
      have b0 : wr.cell? ⟨b, o + j * 6, none⟩ = some (.int .i64 x.o.kind) := cell_below hS.bel _ _ (hat 0 _ rfl)
      have b1 : wr.cell? ⟨b, o + j * 6 + 1, none⟩ = some (.int .i64 x.o.n) := cell_below hS.bel _ _ (hat 1 _ rfl)
      have b2 : wr.cell? ⟨b, o + j * 6 + 2, none⟩ = some (.string x.o.name) := cell_below hS.bel _ _ (hat 2 _ rfl)
      have b3 : wr.cell? ⟨b, o + j * 6 + 3, none⟩ = some (.string x.o.to) := cell_below hS.bel _ _ (hat 3 _ rfl)
      have b4 : wr.cell? ⟨b, o + j * 6 + 4, none⟩ = some (.slice x.B x.nB x.cB) := cell_below hS.bel _ _ (hat 4 _ rfl)
      have b5 : wr.cell? ⟨b, o + j * 6 + 5, none⟩ = some (.slice x.K x.nK x.cK) := cell_below hS.bel _ _ (hat 5 _ rfl)
      have e1 : decide ((j : Int) < (n : Int)) = true := decide_eq_true (by omega)
      have e2 : decide ((j : Int) < 50) = true := decide_eq_true (by omega)
      clear hat hx
      obtain ⟨sm, hsm⟩ : ∃ sm, x.o.small = sm := ⟨_, rfl⟩
      have HSM := Lib.hid hsm
      clear hsm
      by_cases hgo : sm = true ∧ x.o.kind ≠ 9 ∧ x.o.kind ≠ 10
      · obtain ⟨rfl, k9, k10⟩ := hgo
        have d9 : (x.o.kind == 9) = false := by simpa using k9
        have d10 : (x.o.kind == 10) = false := by simpa using k10
        obtain ⟨F, hD, hf, h0⟩ := hS
        have hFl := hD.2.1
        have hA := Lib.hid (does_apart hD.1 hl.out hd.out x.o k9 k10)
        obtain ⟨⟨l7, er7⟩, hr7⟩ : ∃ p, s.read [97] = p := ⟨_, rfl⟩
        obtain ⟨n9, hn9⟩ : ∃ n, ((aget [97] s.fs).getD ([], 0)).2 = n := ⟨_, rfl⟩
        have HR7 := Lib.hid hr7
        have HN9 := Lib.hid hn9
        clear hr7 hn9 k9 k10
        have hW2 : Below wr.heap.size wr (wr.alloc (.cells #[.int .i64 x.o.kind, .int .i64 x.o.n, .string x.o.name, .string x.o.to, .slice x.B x.nB x.cB, .slice x.K x.nK x.cK] 51)) := (Below.refl _ wr).alloc (Nat.le_refl _) _
        go_wp2_with fail
        refine (small_any _ x (hok.below (bst h0 hW2))).mono ?_
        rintro e w2 ⟨rfl, hb2⟩
        rw [HSM.out]
        have q2 : w2.heap[wr.heap.size]? = some (.cells #[.int .i64 x.o.kind, .int .i64 x.o.n, .string x.o.name, .string x.o.to, .slice x.B x.nB x.cB, .slice x.K x.nK x.cK] 51) := (hb2.block _ (by simp)).trans (heap_alloc_new _ _)
        have x0 : w2.cell? ⟨wr.heap.size, 0, none⟩ = some (.int .i64 x.o.kind) := cell_of_row w2 _ 0 _ _ _ q2
        have x1 : w2.cell? ⟨wr.heap.size, 1, none⟩ = some (.int .i64 x.o.n) := cell_of_row w2 _ 1 _ _ _ q2
        have x2 : w2.cell? ⟨wr.heap.size, 2, none⟩ = some (.string x.o.name) := cell_of_row w2 _ 2 _ _ _ q2
        have x3 : w2.cell? ⟨wr.heap.size, 3, none⟩ = some (.string x.o.to) := cell_of_row w2 _ 3 _ _ _ q2
        have x4 : w2.cell? ⟨wr.heap.size, 4, none⟩ = some (.slice x.B x.nB x.cB) := cell_of_row w2 _ 4 _ _ _ q2
        have x5 : w2.cell? ⟨wr.heap.size, 5, none⟩ = some (.slice x.K x.nK x.cK) := cell_of_row w2 _ 5 _ _ _ q2
        have hD2 := (hD.below hW2).below hb2
        have hB2 : Below w.heap.size w w2 := bst (bst h0 hW2) hb2
        have hz2 : wr.heap.size < w2.heap.size := Nat.lt_of_lt_of_le (by simp) hb2.size
        clear hW2 b0 b1 b2 b3 b4 b5
        go_wp2_with fail
        refine (d_read hD2 ⟨#[97]⟩ (by decide) HR7.out).mono ?_
        rintro e w3 ⟨A7, n7, c7, rfl, hI7, hf7, hb3⟩
        have hD3 := hD2.below hb3
        have hB3 := bst hB2 hb3
        have q3 := (hb3.block _ hz2).trans q2
        clear x0 x1 x2 x3 x4 x5 hD2 hB2
        have x0 : w3.cell? ⟨wr.heap.size, 0, none⟩ = some (.int .i64 x.o.kind) := cell_of_row w3 _ 0 _ _ _ q3
        have x1 : w3.cell? ⟨wr.heap.size, 1, none⟩ = some (.int .i64 x.o.n) := cell_of_row w3 _ 1 _ _ _ q3
        have x2 : w3.cell? ⟨wr.heap.size, 2, none⟩ = some (.string x.o.name) := cell_of_row w3 _ 2 _ _ _ q3
        have x3 : w3.cell? ⟨wr.heap.size, 3, none⟩ = some (.string x.o.to) := cell_of_row w3 _ 3 _ _ _ q3
        have x4 : w3.cell? ⟨wr.heap.size, 4, none⟩ = some (.slice x.B x.nB x.cB) := cell_of_row w3 _ 4 _ _ _ q3
        have x5 : w3.cell? ⟨wr.heap.size, 5, none⟩ = some (.slice x.K x.nK x.cK) := cell_of_row w3 _ 5 _ _ _ q3
        go_wp2_with fail
        refine (synced_any hD3 ⟨#[97]⟩ (by decide)).mono ?_
        rintro e w4 ⟨rfl, rfl⟩
        rw [show (aget (⟨#[97]⟩ : ByteArray).data.toList s.fs).getD ([], 0) = (aget [97] s.fs).getD ([], 0) from rfl, HN9.out]
        go_wp2_with fail
        refine (does_any hD3 x (hok.below hB3) fun ad hK hne hF => ?_).mono ?_
        · have := hf _ hF
          have := hok.old ad hK hne
          omega
        rintro e w5 ⟨rfl, F5, hD5, ha5, hF5⟩
        generalize (s.does x.o).2 = er5
        generalize (s.does x.o).1 = s5 at hA hD5
        have hS5 : Sess w w5 a s5 := sess_turned hf hB3 ⟨F5, hD5, ha5, hF5⟩
        have q5 := (ha5.block _ (Nat.lt_of_lt_of_le hz2 hb3.size) (fun hF => by have := hFl _ hF; omega)).trans q3
        have hI5 := hI7.away ha5 (fun ad e hF => by have := hFl _ hF; have := hf7 ad e; omega)
        have hz5 : wr.heap.size < w5.heap.size := Nat.lt_of_lt_of_le (Nat.lt_of_lt_of_le hz2 hb3.size) ha5.size
        clear x0 x1 x2 x3 x4 x5 q2 q3 hD3 hB3 ha5 hF5 hI7 hf7 hb3 hb2
        have x0 : w5.cell? ⟨wr.heap.size, 0, none⟩ = some (.int .i64 x.o.kind) := cell_of_row w5 _ 0 _ _ _ q5
        have x1 : w5.cell? ⟨wr.heap.size, 1, none⟩ = some (.int .i64 x.o.n) := cell_of_row w5 _ 1 _ _ _ q5
        have x2 : w5.cell? ⟨wr.heap.size, 2, none⟩ = some (.string x.o.name) := cell_of_row w5 _ 2 _ _ _ q5
        have x3 : w5.cell? ⟨wr.heap.size, 3, none⟩ = some (.string x.o.to) := cell_of_row w5 _ 3 _ _ _ q5
        have x4 : w5.cell? ⟨wr.heap.size, 4, none⟩ = some (.slice x.B x.nB x.cB) := cell_of_row w5 _ 4 _ _ _ q5
        have x5 : w5.cell? ⟨wr.heap.size, 5, none⟩ = some (.slice x.K x.nK x.cK) := cell_of_row w5 _ 5 _ _ _ q5
        have hnd' : x.o.name.toList = x.o.name.data.toList := Lib.toList_data _
        have htd' : x.o.to.toList = x.o.to.data.toList := Lib.toList_data _
        by_cases hna : x.o.name.toList = [97]
        · have hnl : (x.o.name.toList == [97]) = true := by rw [hna]; rfl
          clear hnd' htd'
          obtain ⟨⟨l10, er10⟩, hr10⟩ : ∃ p, s5.read [97] = p := ⟨_, rfl⟩
          have HR10 := Lib.hid hr10
          clear hr10
          go_wp2_with fail
          refine (d_read hD5 ⟨#[97]⟩ (by decide) HR10.out).mono ?_
          rintro e w6 ⟨A10, n10, c10, rfl, hI10, hf10, hb6⟩
          have hS6 := hS5.below hb6
          have q6 := (hb6.block _ hz5).trans q5
          clear x0 x1 x2 x3 x4 x5
          have x0 : w6.cell? ⟨wr.heap.size, 0, none⟩ = some (.int .i64 x.o.kind) := cell_of_row w6 _ 0 _ _ _ q6
          have x1 : w6.cell? ⟨wr.heap.size, 1, none⟩ = some (.int .i64 x.o.n) := cell_of_row w6 _ 1 _ _ _ q6
          have x2 : w6.cell? ⟨wr.heap.size, 2, none⟩ = some (.string x.o.name) := cell_of_row w6 _ 2 _ _ _ q6
          have x3 : w6.cell? ⟨wr.heap.size, 3, none⟩ = some (.string x.o.to) := cell_of_row w6 _ 3 _ _ _ q6
          have x4 : w6.cell? ⟨wr.heap.size, 4, none⟩ = some (.slice x.B x.nB x.cB) := cell_of_row w6 _ 4 _ _ _ q6
          have x5 : w6.cell? ⟨wr.heap.size, 5, none⟩ = some (.slice x.K x.nK x.cK) := cell_of_row w6 _ 5 _ _ _ q6
          go_wp2_with fail
          go_roundw
          case rel => exact ⟨j + 1, s5, by go_num, by omega, by omega, hA.out.1, hA.out.2.1, hS6⟩
          case measure => simp [intOf]; omega
        · have hnl : (x.o.name.toList == [97]) = false := beq_false_of_ne hna
          have hnd : x.o.name.data.toList ≠ [97] := by rw [← hnd']; exact hna
          by_cases k6 : x.o.kind = 6
          · have d6 : (x.o.kind == 6) = true := by simpa using k6
            by_cases hta : x.o.to.toList = [97]
            · have htl : (x.o.to.toList == [97]) = true := by rw [hta]; rfl
              clear hnd' htd' hnd
              obtain ⟨⟨l10, er10⟩, hr10⟩ : ∃ p, s5.read [97] = p := ⟨_, rfl⟩
              have HR10 := Lib.hid hr10
              clear hr10
              go_wp2_with fail
              refine (d_read hD5 ⟨#[97]⟩ (by decide) HR10.out).mono ?_
              rintro e w6 ⟨A10, n10, c10, rfl, hI10, hf10, hb6⟩
              have hS6 := hS5.below hb6
              have q6 := (hb6.block _ hz5).trans q5
              clear x0 x1 x2 x3 x4 x5
              have x0 : w6.cell? ⟨wr.heap.size, 0, none⟩ = some (.int .i64 x.o.kind) := cell_of_row w6 _ 0 _ _ _ q6
              have x1 : w6.cell? ⟨wr.heap.size, 1, none⟩ = some (.int .i64 x.o.n) := cell_of_row w6 _ 1 _ _ _ q6
              have x2 : w6.cell? ⟨wr.heap.size, 2, none⟩ = some (.string x.o.name) := cell_of_row w6 _ 2 _ _ _ q6
              have x3 : w6.cell? ⟨wr.heap.size, 3, none⟩ = some (.string x.o.to) := cell_of_row w6 _ 3 _ _ _ q6
              have x4 : w6.cell? ⟨wr.heap.size, 4, none⟩ = some (.slice x.B x.nB x.cB) := cell_of_row w6 _ 4 _ _ _ q6
              have x5 : w6.cell? ⟨wr.heap.size, 5, none⟩ = some (.slice x.K x.nK x.cK) := cell_of_row w6 _ 5 _ _ _ q6
              go_wp2_with fail
              go_roundw
              case rel => exact ⟨j + 1, s5, by go_num, by omega, by omega, hA.out.1, hA.out.2.1, hS6⟩
              case measure => simp [intOf]; omega
            · have htl : (x.o.to.toList == [97]) = false := beq_false_of_ne hta
              have HAG := Lib.hid (hA.out.2.2 [97] hnd (fun _ => by rw [← htd']; exact hta))
              have HRs := Lib.hid ((read_like (hA.out.2.1.trans hd.out.symm) HAG.out).trans HR7.out)
              have HNs : Hid (((aget [97] s5.fs).getD ([], 0)).2 = n9) := by show _ = _; rw [HAG.out]; exact HN9.out
              clear hnd' htd' hnd
              go_wp2_with fail
              refine (d_read hD5 ⟨#[97]⟩ (by decide) HRs.out).mono ?_
              rintro e w6 ⟨A10, n10, c10, rfl, hI10, hf10, hb6⟩
              have hS6 := hS5.below hb6
              have q6 := (hb6.block _ hz5).trans q5
              clear x0 x1 x2 x3 x4 x5
              have x0 : w6.cell? ⟨wr.heap.size, 0, none⟩ = some (.int .i64 x.o.kind) := cell_of_row w6 _ 0 _ _ _ q6
              have x1 : w6.cell? ⟨wr.heap.size, 1, none⟩ = some (.int .i64 x.o.n) := cell_of_row w6 _ 1 _ _ _ q6
              have x2 : w6.cell? ⟨wr.heap.size, 2, none⟩ = some (.string x.o.name) := cell_of_row w6 _ 2 _ _ _ q6
              have x3 : w6.cell? ⟨wr.heap.size, 3, none⟩ = some (.string x.o.to) := cell_of_row w6 _ 3 _ _ _ q6
              have x4 : w6.cell? ⟨wr.heap.size, 4, none⟩ = some (.slice x.B x.nB x.cB) := cell_of_row w6 _ 4 _ _ _ q6
              have x5 : w6.cell? ⟨wr.heap.size, 5, none⟩ = some (.slice x.K x.nK x.cK) := cell_of_row w6 _ 5 _ _ _ q6
              have hI6 := hI5.below hb6
              have hD6 := hD5.below hb6
              go_wp2_with fail
              refine (synced_any hD6 ⟨#[97]⟩ (by decide)).mono ?_
              rintro e w7 ⟨rfl, rfl⟩
              rw [show (aget (⟨#[97]⟩ : ByteArray).data.toList s5.fs).getD ([], 0) = (aget [97] s5.fs).getD ([], 0) from rfl, HNs.out]
              go_wp2_with fail
              refine (samebytes_any hI6 hI10).mono ?_
              rintro e w8 ⟨rfl, rfl⟩
              rw [decide_eq_true rfl]
              go_wp2_with fail
              go_roundw
              case rel => exact ⟨j + 1, s5, by go_num, by omega, by omega, hA.out.1, hA.out.2.1, hS6⟩
              case measure => simp [intOf]; omega
          · have d6 : (x.o.kind == 6) = false := by simpa using k6
            have HAG := Lib.hid (hA.out.2.2 [97] hnd (fun e => absurd e k6))
            have HRs := Lib.hid ((read_like (hA.out.2.1.trans hd.out.symm) HAG.out).trans HR7.out)
            have HNs : Hid (((aget [97] s5.fs).getD ([], 0)).2 = n9) := by show _ = _; rw [HAG.out]; exact HN9.out
            clear hnd' htd' hnd
            go_wp2_with fail
            refine (d_read hD5 ⟨#[97]⟩ (by decide) HRs.out).mono ?_
            rintro e w6 ⟨A10, n10, c10, rfl, hI10, hf10, hb6⟩
            have hS6 := hS5.below hb6
            have q6 := (hb6.block _ hz5).trans q5
            clear x0 x1 x2 x3 x4 x5
            have x0 : w6.cell? ⟨wr.heap.size, 0, none⟩ = some (.int .i64 x.o.kind) := cell_of_row w6 _ 0 _ _ _ q6
            have x1 : w6.cell? ⟨wr.heap.size, 1, none⟩ = some (.int .i64 x.o.n) := cell_of_row w6 _ 1 _ _ _ q6
            have x2 : w6.cell? ⟨wr.heap.size, 2, none⟩ = some (.string x.o.name) := cell_of_row w6 _ 2 _ _ _ q6
            have x3 : w6.cell? ⟨wr.heap.size, 3, none⟩ = some (.string x.o.to) := cell_of_row w6 _ 3 _ _ _ q6
            have x4 : w6.cell? ⟨wr.heap.size, 4, none⟩ = some (.slice x.B x.nB x.cB) := cell_of_row w6 _ 4 _ _ _ q6
            have x5 : w6.cell? ⟨wr.heap.size, 5, none⟩ = some (.slice x.K x.nK x.cK) := cell_of_row w6 _ 5 _ _ _ q6
            have hI6 := hI5.below hb6
            have hD6 := hD5.below hb6
            go_wp2_with fail
            refine (synced_any hD6 ⟨#[97]⟩ (by decide)).mono ?_
            rintro e w7 ⟨rfl, rfl⟩
            rw [show (aget (⟨#[97]⟩ : ByteArray).data.toList s5.fs).getD ([], 0) = (aget [97] s5.fs).getD ([], 0) from rfl, HNs.out]
            go_wp2_with fail
            refine (samebytes_any hI6 hI10).mono ?_
            rintro e w8 ⟨rfl, rfl⟩
            rw [decide_eq_true rfl]
            go_wp2_with fail
            go_roundw
            case rel => exact ⟨j + 1, s5, by go_num, by omega, by omega, hA.out.1, hA.out.2.1, hS6⟩
            case measure => simp [intOf]; omega
      · have hcase : sm = false ∨ (sm = true ∧ (x.o.kind == 9) = true) ∨ (sm = true ∧ (x.o.kind == 9) = false ∧ (x.o.kind == 10) = true) := by
          cases sm
          · exact .inl rfl
          · by_cases k9 : x.o.kind = 9
            · exact .inr (.inl ⟨rfl, by simpa using k9⟩)
            · by_cases k10 : x.o.kind = 10
              · exact .inr (.inr ⟨rfl, by simpa using k9, by simpa using k10⟩)
              · exact absurd ⟨rfl, k9, k10⟩ hgo
        clear hgo
        have hW2 : Below wr.heap.size wr (wr.alloc (.cells #[.int .i64 x.o.kind, .int .i64 x.o.n, .string x.o.name, .string x.o.to, .slice x.B x.nB x.cB, .slice x.K x.nK x.cK] 51)) := (Below.refl _ wr).alloc (Nat.le_refl _) _
        rcases hcase with rfl | ⟨rfl, d9⟩ | ⟨rfl, d9, d10⟩
        · go_wp2_with fail
          refine (small_any _ x (hok.below (bst hS.bel hW2))).mono ?_
          rintro e w2 ⟨rfl, hb2⟩
          rw [HSM.out]
          have q2 : w2.heap[wr.heap.size]? = some (.cells #[.int .i64 x.o.kind, .int .i64 x.o.n, .string x.o.name, .string x.o.to, .slice x.B x.nB x.cB, .slice x.K x.nK x.cK] 51) := (hb2.block _ (by simp)).trans (heap_alloc_new _ _)
          have x0 : w2.cell? ⟨wr.heap.size, 0, none⟩ = some (.int .i64 x.o.kind) := cell_of_row w2 _ 0 _ _ _ q2
          have x1 : w2.cell? ⟨wr.heap.size, 1, none⟩ = some (.int .i64 x.o.n) := cell_of_row w2 _ 1 _ _ _ q2
          have x2 : w2.cell? ⟨wr.heap.size, 2, none⟩ = some (.string x.o.name) := cell_of_row w2 _ 2 _ _ _ q2
          have x3 : w2.cell? ⟨wr.heap.size, 3, none⟩ = some (.string x.o.to) := cell_of_row w2 _ 3 _ _ _ q2
          have x4 : w2.cell? ⟨wr.heap.size, 4, none⟩ = some (.slice x.B x.nB x.cB) := cell_of_row w2 _ 4 _ _ _ q2
          have x5 : w2.cell? ⟨wr.heap.size, 5, none⟩ = some (.slice x.K x.nK x.cK) := cell_of_row w2 _ 5 _ _ _ q2
          have hS2 := (hS.below hW2).below hb2
          clear hW2 b0 b1 b2 b3 b4 b5
          go_wp2_with fail
          go_roundw
          case rel => exact ⟨j + 1, s, by go_num, by omega, by omega, hl, hd, hS2⟩
          case measure => simp [intOf]; omega
        · go_wp2_with fail
          refine (small_any _ x (hok.below (bst hS.bel hW2))).mono ?_
          rintro e w2 ⟨rfl, hb2⟩
          rw [HSM.out]
          have q2 : w2.heap[wr.heap.size]? = some (.cells #[.int .i64 x.o.kind, .int .i64 x.o.n, .string x.o.name, .string x.o.to, .slice x.B x.nB x.cB, .slice x.K x.nK x.cK] 51) := (hb2.block _ (by simp)).trans (heap_alloc_new _ _)
          have x0 : w2.cell? ⟨wr.heap.size, 0, none⟩ = some (.int .i64 x.o.kind) := cell_of_row w2 _ 0 _ _ _ q2
          have x1 : w2.cell? ⟨wr.heap.size, 1, none⟩ = some (.int .i64 x.o.n) := cell_of_row w2 _ 1 _ _ _ q2
          have x2 : w2.cell? ⟨wr.heap.size, 2, none⟩ = some (.string x.o.name) := cell_of_row w2 _ 2 _ _ _ q2
          have x3 : w2.cell? ⟨wr.heap.size, 3, none⟩ = some (.string x.o.to) := cell_of_row w2 _ 3 _ _ _ q2
          have x4 : w2.cell? ⟨wr.heap.size, 4, none⟩ = some (.slice x.B x.nB x.cB) := cell_of_row w2 _ 4 _ _ _ q2
          have x5 : w2.cell? ⟨wr.heap.size, 5, none⟩ = some (.slice x.K x.nK x.cK) := cell_of_row w2 _ 5 _ _ _ q2
          have hS2 := (hS.below hW2).below hb2
          clear hW2 b0 b1 b2 b3 b4 b5
          go_wp2_with fail
          go_roundw
          case rel => exact ⟨j + 1, s, by go_num, by omega, by omega, hl, hd, hS2⟩
          case measure => simp [intOf]; omega
        · go_wp2_with fail
          refine (small_any _ x (hok.below (bst hS.bel hW2))).mono ?_
          rintro e w2 ⟨rfl, hb2⟩
          rw [HSM.out]
          have q2 : w2.heap[wr.heap.size]? = some (.cells #[.int .i64 x.o.kind, .int .i64 x.o.n, .string x.o.name, .string x.o.to, .slice x.B x.nB x.cB, .slice x.K x.nK x.cK] 51) := (hb2.block _ (by simp)).trans (heap_alloc_new _ _)
          have x0 : w2.cell? ⟨wr.heap.size, 0, none⟩ = some (.int .i64 x.o.kind) := cell_of_row w2 _ 0 _ _ _ q2
          have x1 : w2.cell? ⟨wr.heap.size, 1, none⟩ = some (.int .i64 x.o.n) := cell_of_row w2 _ 1 _ _ _ q2
          have x2 : w2.cell? ⟨wr.heap.size, 2, none⟩ = some (.string x.o.name) := cell_of_row w2 _ 2 _ _ _ q2
          have x3 : w2.cell? ⟨wr.heap.size, 3, none⟩ = some (.string x.o.to) := cell_of_row w2 _ 3 _ _ _ q2
          have x4 : w2.cell? ⟨wr.heap.size, 4, none⟩ = some (.slice x.B x.nB x.cB) := cell_of_row w2 _ 4 _ _ _ q2
          have x5 : w2.cell? ⟨wr.heap.size, 5, none⟩ = some (.slice x.K x.nK x.cK) := cell_of_row w2 _ 5 _ _ _ q2
          have hS2 := (hS.below hW2).below hb2
          clear hW2 b0 b1 b2 b3 b4 b5
          go_wp2_with fail
          go_roundw
          case rel => exact ⟨j + 1, s, by go_num, by omega, by omega, hl, hd, hS2⟩
          case measure => simp [intOf]; omega
    · obtain rfl | rfl : j = n ∨ j = 50 := by omega
      · have e1 : decide ((j : Int) < (j : Int)) = false := by simp
        go_wp2_with fail
        refine (awake2_any _).mono ?_
        rintro e w2 ⟨rfl, hb⟩
        go_wp2_with fail
        go_ret
        exact ⟨rfl, bst hS.bel hb⟩
      · by_cases h50 : 50 < n
        · have e1 : decide ((50 : Int) < (n : Int)) = true := decide_eq_true (by omega)
          go_wp2_with fail
          refine (awake2_any _).mono ?_
          rintro e w2 ⟨rfl, hb⟩
          go_wp2_with fail
          go_ret
          exact ⟨rfl, bst hS.bel hb⟩
        · have e1 : decide ((50 : Int) < (n : Int)) = false := decide_eq_false (by omega)
          go_wp2_with fail
          refine (awake2_any _).mono ?_
          rintro e w2 ⟨rfl, hb⟩
          go_wp2_with fail
          go_ret
          exact ⟨rfl, bst hS.bel hb⟩
end Go.Proofs.Ytdcflgblaljdeaa
