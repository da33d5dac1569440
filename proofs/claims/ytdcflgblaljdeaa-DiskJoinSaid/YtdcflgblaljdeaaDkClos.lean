/-
  The disk's closures: what each operation does.
-/
import Derived.Test.YtdcflgblaljdeaaDkOperate
import Derived.Deep.RegionHeld3
set_option linter.unusedVariables false
set_option linter.unusedSimpArgs false
namespace Go.Proofs.Ytdcflgblaljdeaa
open Go.RowKit Go.Maps
open Go.Lib (byteCells byteCells_length byteCells_append)

section
variable {w : World} {a mb : Nat} {ms : List (Nm × Raw)} {most : Nat} {armed : Bool} {lv : Int} {down : Bool}

/-- an append to a row, as the walk has it -/
theorem rowB {r : Raw} (h : FRow w r) {B : Option Addr} {m c : Nat} {news : List UInt8} (hB : IsB w B m c news) (hsz : r.c.1.length + m ≤ 70368744177664) (A : Option Addr) (n cp : Nat) (hA : r.sl = .slice A n cp) (ty : TypeId) :
    ∃ v' w', (Builtin.append_ #[26, 26] ty #[.slice A n cp, .slice B m c]).run Try.prog w = .ok v' w' ∧ ∃ (g : Option Nat) (cap : Nat), v' = .slice (g.map fun b => ⟨b, 0, none⟩) (n + m) cap ∧ FRow w' ⟨g, cap, (r.c.1 ++ news, r.c.2)⟩ ∧ (g = r.g ∨ g = some w.heap.size) ∧ w.grownBy w' r.g := by
  obtain ⟨⟨g, cap, c'⟩, w', hr, hc, hrow, hg, hat⟩ := row_append h ty hB hsz
  rw [hA] at hr
  simp only at hc hat
  subst hc
  have hn : n = r.c.1.length := by
    unfold Raw.sl at hA
    simp at hA
    exact hA.2.1.symm
  refine ⟨_, w', hr, g, cap, by unfold Raw.sl; rw [List.length_append, hB.len, hn], hrow, hat, hg⟩

set_option maxRecDepth 100000 in
set_option maxHeartbeats 1000000 in
theorem cl_append {r : Raw} {s : ByteArray} {fb bb db nb : Nat} {B : Option Addr} {n c : Nat} {l : List UInt8} (h : DkP w a mb ms most armed lv down) (hs : s.size ≤ maxLen)
    (hf : w.heap[fb]? = some (.cells #[r.sl, .int .i64 (r.c.2 : Int)] 97 (0, 0))) (hb : w.heap[bb]? = some (.cells #[.slice B n c] 26 (0, 0)))
    (hd : w.heap[db]? = some (.cells #[.pointer (some ⟨a, 0, none⟩)] 22 (0, 0))) (hn : w.heap[nb]? = some (.cells #[.string s] 9 (0, 0)))
    (hB : IsB w B n c l) (hr : FRow w r) (hap : ∀ p ∈ ms, p.1 ≠ s.data.toList → ∀ b, r.g = some b → p.2.g ≠ some b) (hu : usedR ms ≤ 16777216) (hml : ms.length ≤ 1000) (hrl : r.c.1.length + n ≤ 16777216) :
    Calls Try.prog 57 #[.pointer (some ⟨fb, 0, none⟩), .pointer (some ⟨bb, 0, none⟩), .pointer (some ⟨db, 0, none⟩), .pointer (some ⟨nb, 0, none⟩)] w fun e w' =>
      e = .returned (.tuple #[]) ∧ ∃ r' : Raw, r'.c = (r.c.1 ++ l, r.c.2) ∧ (r'.g = r.g ∨ r'.g = some w.heap.size) ∧ DkP w' a mb (aput s.data.toList r' ms) most armed lv down ∧ Away (fun b => b = a ∨ b = mb ∨ r.g = some b ∨ b = fb) w w' := by
  have hq := h.q s.data.toList
  have x0 : w.cell? ⟨fb, 0, none⟩ = some r.sl := cell_of_row w _ 0 _ _ _ hf
  have y0 : w.cell? ⟨bb, 0, none⟩ = some (.slice B n c) := cell_of_row w _ 0 _ _ _ hb
  obtain ⟨A, nr, cp, hA⟩ : ∃ A m c, r.sl = .slice A m c := ⟨_, _, _, rfl⟩
  have hh := rowB hr hB (by omega) A nr cp hA 0
  have hnr : nr = r.c.1.length := by
    unfold Raw.sl at hA
    simp at hA
    exact hA.2.1.symm
  rw [hA] at x0
  -- what is apart from the row
  have nf : ∀ b, r.g = some b → b ≠ fb ∧ b ≠ db ∧ b ≠ nb := fun b hb => by
    obtain ⟨cs, hc⟩ := row_type hr hb
    refine ⟨?_, ?_, ?_⟩ <;> rintro rfl
    · rw [hf] at hc; simp at hc
    · rw [hd] at hc; simp at hc
    · rw [hn] at hc; simp at hc
  have hdf : db ≠ fb := by rintro rfl; rw [hf] at hd; simp at hd
  have hnf : nb ≠ fb := by rintro rfl; rw [hf] at hn; simp at hn
  have hfd : fb ≠ db := by rintro rfl; rw [hf] at hd; simp at hd
  have hfn : fb ≠ nb := by rintro rfl; rw [hf] at hn; simp at hn
  have lf := (Array.getElem?_eq_some_iff.1 hf).1
  have ld := (Array.getElem?_eq_some_iff.1 hd).1
  have ln := (Array.getElem?_eq_some_iff.1 hn).1
  have HF := Lib.hid hf
  have HD := Lib.hid hd
  have HN := Lib.hid hn
  have HNR := Lib.hid hnr
  have HA := Lib.hid hA
  clear hf hd hn hb hnr hA
  go_enter Try.func57, Try.ntmps57
  go_wp2_with (at_builtin; refine wpList_run _ rfl (.tmp 5) (.tmp 6) 26 rfl hh ?_; rintro v' w1 ⟨g, cap, rfl, hrow, hgn, hgr⟩; have hag := Away.of_grown hgr; have q1 := (hag.block fb lf (fun e => (nf fb e).1 rfl)).trans HF.out; have z0 : w1.cell? ⟨fb, 0, none⟩ = some r.sl := cell_of_row w1 _ 0 _ _ _ q1; have zf := free_of_row q1 0; have z1 : w1.cell? ⟨fb, 1, none⟩ = some (.int .i64 (r.c.2 : Int)) := cell_of_row w1 _ 1 _ _ _ q1; have q2 := (hag.block db ld (fun e => (nf db e).2.1 rfl)).trans HD.out; have z2 : w1.cell? ⟨db, 0, none⟩ = some (.pointer (some ⟨a, 0, none⟩)) := cell_of_row w1 _ 0 _ _ _ q2; have q3 := (hag.block nb ln (fun e => (nf nb e).2.2 rfl)).trans HN.out; have z3 : w1.cell? ⟨nb, 0, none⟩ = some (.string s) := cell_of_row w1 _ 0 _ _ _ q3; rw [HA.out] at z0; clear q1 q2 q3 hh)
  have HV : Hid ((⟨g, cap, (r.c.1 ++ l, r.c.2)⟩ : Raw).val = .agg #[.slice (g.map fun b => ⟨b, 0, none⟩) (nr + n) cap, .int .i64 (r.c.2 : Int)]) := by
    show _ = _
    unfold Raw.val Raw.sl
    rw [List.length_append, hB.len, HNR.out]
  rw [← HV.out]
  have hq1 := hq.away hag (fun e => (h.ne_row hr e).1 rfl) fun b hb e => by
    rcases hb with rfl | ⟨p, hp, hpn, hg⟩
    · exact (h.ne_row hr e).2 rfl
    · exact hap p hp hpn b e hg
  have hS := Away.setCell w1 ⟨fb, 0, none⟩ (.slice (g.map fun b => ⟨b, 0, none⟩) (nr + n) cap)
  have hfo := hq1.other ((hag.block fb lf (fun e => (nf fb e).1 rfl)).trans HF.out) (by decide) (by decide)
  have hq2 := hq1.away hS (fun e => hfo.1 e.symm) fun b hb e => by subst e; exact hfo.2 hb
  have hgf : ∀ b, g = some b → b ≠ fb := fun b hb e => by
    subst e
    rcases hgn with e | e
    · rw [e] at hb; exact (nf _ hb).1 rfl
    · rw [e] at hb; injection hb with hb; omega
  have hrow2 := hrow.away hS hgf
  refine (put_any s hq2 hs _ hrow2 ?_ hu hml (by rw [List.length_append, hB.len]; exact hrl)).mono ?_
  · intro p hp hpn b hb hpb
    rcases hgn with e | e
    · exact hap p hp hpn b (by rw [← e]; exact hb) hpb
    · have := (h.files.rows p hp).lt hpb
      have hb' : g = some b := hb
      rw [e] at hb'; injection hb' with hb'; omega
  · rintro e w' ⟨rfl, hP, hA'⟩
    go_wp2_with fail
    go_end0
    refine ⟨rfl, ⟨g, cap, (r.c.1 ++ l, r.c.2)⟩, rfl, hgn, hP, ?_⟩
    refine ((hag.mono (F' := fun b => b = a ∨ b = mb ∨ r.g = some b ∨ b = fb) fun b _ e => .inr (.inr (.inl e))).trans hS fun b e => .inl (.inr (.inr (.inr e)))).trans hA' fun b e => .inl ?_
    rcases e with e | e
    · exact .inl e
    · exact .inr (.inl e)

theorem away_cell {F : Nat → Prop} {w w' : World} {p : Addr} {v : Value} (ha : Away F w w') (hn : ¬ F p.block) (h : w.cell? p = some v) : w'.cell? p = some v :=
  (World.cell?_of_block (ha.block p.block (block_lt_of_cell h) hn)).trans h
theorem FRow.syn {w : World} {r : Raw} (h : FRow w r) (n : Nat) : FRow w ⟨r.g, r.cap, (r.c.1, n)⟩ := h
theorem Raw.sl_syn (r : Raw) (n : Nat) : (⟨r.g, r.cap, (r.c.1, n)⟩ : Raw).sl = r.sl := rfl

set_option maxRecDepth 100000 in
set_option maxHeartbeats 1000000 in
theorem cl_sync {r : Raw} {s : ByteArray} {fb db nb : Nat} (h : DkP w a mb ms most armed lv down) (hs : s.size ≤ maxLen)
    (hf : w.heap[fb]? = some (.cells #[r.sl, .int .i64 (r.c.2 : Int)] 97 (0, 0)))
    (hd : w.heap[db]? = some (.cells #[.pointer (some ⟨a, 0, none⟩)] 22 (0, 0))) (hn : w.heap[nb]? = some (.cells #[.string s] 9 (0, 0)))
    (hr : FRow w r) (hap : ∀ p ∈ ms, p.1 ≠ s.data.toList → ∀ b, r.g = some b → p.2.g ≠ some b) (hu : usedR ms ≤ 16777216) (hml : ms.length ≤ 1000) (hrl : r.c.1.length ≤ 16777216) :
    Calls Try.prog 63 #[.pointer (some ⟨fb, 0, none⟩), .pointer (some ⟨db, 0, none⟩), .pointer (some ⟨nb, 0, none⟩)] w fun e w' =>
      e = .returned (.tuple #[]) ∧ DkP w' a mb (aput s.data.toList ⟨r.g, r.cap, (r.c.1, r.c.1.length)⟩ ms) most armed lv down ∧ Away (fun b => b = a ∨ b = mb ∨ b = fb) w w' := by
  have hq := h.q s.data.toList
  have x0 : w.cell? ⟨fb, 0, none⟩ = some r.sl := cell_of_row w _ 0 _ _ _ hf
  have x1 : w.cell? ⟨fb, 1, none⟩ = some (.int .i64 (r.c.2 : Int)) := cell_of_row w _ 1 _ _ _ hf
  have f1 := free_of_row hf 1
  have d0 : w.cell? ⟨db, 0, none⟩ = some (.pointer (some ⟨a, 0, none⟩)) := cell_of_row w _ 0 _ _ _ hd
  have n0 : w.cell? ⟨nb, 0, none⟩ = some (.string s) := cell_of_row w _ 0 _ _ _ hn
  have hdf : db ≠ fb := by rintro rfl; rw [hf] at hd; simp at hd
  have hnf : nb ≠ fb := by rintro rfl; rw [hf] at hn; simp at hn
  have nf : ∀ b, r.g = some b → b ≠ fb := fun b hb => by
    obtain ⟨cs, hc⟩ := row_type hr hb
    rintro rfl
    rw [hf] at hc; simp at hc
  have hfo := hq.other hf (by decide) (by decide)
  obtain ⟨nr, hnr⟩ : ∃ n, r.c.1.length = n := ⟨_, rfl⟩
  have hsl : r.sl = .slice (r.g.map fun b => ⟨b, 0, none⟩) nr r.cap := by unfold Raw.sl; rw [hnr]
  have HV : Hid ((⟨r.g, r.cap, (r.c.1, nr)⟩ : Raw).val = .agg #[.slice (r.g.map fun b => ⟨b, 0, none⟩) nr r.cap, .int .i64 (nr : Int)]) := by
    show _ = _
    unfold Raw.val
    rw [Raw.sl_syn, hsl]
  have hS := Away.setCell w ⟨fb, 1, none⟩ (.int .i64 (nr : Int))
  have hq2 := hq.away hS (fun e => hfo.1 e.symm) fun b hb e => by subst e; exact hfo.2 hb
  have hrow2 := (hr.syn nr).away hS nf
  rw [hnr]
  rw [hsl] at x0
  rw [hnr] at hrl
  have HR := Lib.hid hnr
  clear hf hd hn hnr hsl hq
  go_enter Try.func63, Try.ntmps63
  go_wp2_with fail
  rw [← HV.out]
  refine (put_any s hq2 hs _ hrow2 hap hu hml (by show r.c.1.length ≤ _; rw [HR.out]; exact hrl)).mono ?_
  rintro e w' ⟨rfl, hP, hA'⟩
  go_wp2_with fail
  go_end0
  refine ⟨rfl, hP, ?_⟩
  refine (hS.mono (F' := fun b => b = a ∨ b = mb ∨ b = fb) fun b _ e => .inr (.inr e)).trans hA' fun b e => .inl ?_
  rcases e with e | e
  · exact .inl e
  · exact .inr (.inl e)

set_option maxRecDepth 100000 in
set_option maxHeartbeats 1000000 in
theorem cl_remove {s : ByteArray} {db nb : Nat} (h : DkP w a mb ms most armed lv down) (hs : s.size ≤ maxLen)
    (hd : w.heap[db]? = some (.cells #[.pointer (some ⟨a, 0, none⟩)] 22 (0, 0))) (hn : w.heap[nb]? = some (.cells #[.string s] 9 (0, 0)))
    (hu : usedR ms ≤ 16777216) :
    Calls Try.prog 64 #[.pointer (some ⟨db, 0, none⟩), .pointer (some ⟨nb, 0, none⟩)] w fun e w' =>
      e = .returned (.tuple #[]) ∧ DkP w' a mb (adel s.data.toList ms) most armed lv down ∧ Away (fun b => b = a ∨ b = mb) w w' := by
  have d0 : w.cell? ⟨db, 0, none⟩ = some (.pointer (some ⟨a, 0, none⟩)) := cell_of_row w _ 0 _ _ _ hd
  have n0 : w.cell? ⟨nb, 0, none⟩ = some (.string s) := cell_of_row w _ 0 _ _ _ hn
  clear hd hn
  go_enter Try.func64, Try.ntmps64
  go_wp2_with fail
  refine (drop_any h s hs hu).mono ?_
  rintro e w' ⟨rfl, hP, hA'⟩
  go_wp2_with fail
  go_end0
  exact ⟨rfl, hP, hA'⟩

set_option maxRecDepth 100000 in
set_option maxHeartbeats 1000000 in
theorem cl_rename {r : Raw} {s t : ByteArray} {fb db nb tb : Nat} (h : DkP w a mb ms most armed lv down) (hs : s.size ≤ maxLen) (ht : t.size ≤ maxLen)
    (hf : w.heap[fb]? = some (.cells #[r.sl, .int .i64 (r.c.2 : Int)] 97 (0, 0)))
    (hd : w.heap[db]? = some (.cells #[.pointer (some ⟨a, 0, none⟩)] 22 (0, 0))) (hn : w.heap[nb]? = some (.cells #[.string s] 9 (0, 0)))
    (hto : w.heap[tb]? = some (.cells #[.string t] 9 (0, 0)))
    (hat : aget s.data.toList ms = some r) (hu : usedR ms ≤ 16777216) (hml : ms.length ≤ 1000) :
    Calls Try.prog 66 #[.pointer (some ⟨db, 0, none⟩), .pointer (some ⟨nb, 0, none⟩), .pointer (some ⟨tb, 0, none⟩), .pointer (some ⟨fb, 0, none⟩)] w fun e w' =>
      e = .returned (.tuple #[]) ∧ DkP w' a mb (aput t.data.toList r (adel s.data.toList ms)) most armed lv down ∧ Away (fun b => b = a ∨ b = mb) w w' := by
  have hmem := aget_mem hat
  have hr := h.files.rows _ hmem
  have hu1 := asum_adel (g := fun r : Raw => r.c.1.length) h.files.rise s.data.toList
  rw [hat] at hu1
  have hl1 : (adel s.data.toList ms).length ≤ ms.length := List.length_filter_le _ _
  have hrl : r.c.1.length ≤ 16777216 := by
    unfold usedR at hu
    simp at hu1
    omega
  have hu2 : usedR (adel s.data.toList ms) ≤ 16777216 := by
    unfold usedR at hu ⊢
    omega
  have d0 : w.cell? ⟨db, 0, none⟩ = some (.pointer (some ⟨a, 0, none⟩)) := cell_of_row w _ 0 _ _ _ hd
  have n0 : w.cell? ⟨nb, 0, none⟩ = some (.string s) := cell_of_row w _ 0 _ _ _ hn
  have lf := (Array.getElem?_eq_some_iff.1 hf).1
  have ld := (Array.getElem?_eq_some_iff.1 hd).1
  have lt := (Array.getElem?_eq_some_iff.1 hto).1
  have of := h.other hf (by decide) (by decide)
  have od := h.other hd (by decide) (by decide)
  have ot := h.other hto (by decide) (by decide)
  have HF := Lib.hid hf
  have HD := Lib.hid hd
  have HT := Lib.hid hto
  have hrr : ∀ b, r.g = some b → b ≠ a ∧ b ≠ mb := fun b hb => h.ne_row hr hb
  have hap : ∀ p ∈ adel s.data.toList ms, p.1 ≠ t.data.toList → ∀ b, r.g = some b → p.2.g ≠ some b := fun p hp _ b hb => by
    obtain ⟨hp, hpn⟩ := mem_adel.1 hp
    exact h.files.two hmem hp (fun e => hpn e.symm) hb
  clear hf hd hn hto hat hu1 hl1
  go_enter Try.func66, Try.ntmps66
  go_wp2_with fail
  refine (drop_any h s hs hu).mono ?_
  rintro e w1 ⟨rfl, hP, hA1⟩
  have q1 := (hA1.block fb lf (fun e => of (by rcases e with e | e; exact .inl e; exact .inr (.inl e)))).trans HF.out
  have q2 := (hA1.block db ld (fun e => od (by rcases e with e | e; exact .inl e; exact .inr (.inl e)))).trans HD.out
  have q3 := (hA1.block tb lt (fun e => ot (by rcases e with e | e; exact .inl e; exact .inr (.inl e)))).trans HT.out
  have hr1 := hr.away hA1 fun b hb e => by
    rcases e with e | e
    · exact (hrr b hb).1 e
    · exact (hrr b hb).2 e
  have z0 : w1.cell? ⟨fb, 0, none⟩ = some r.sl := cell_of_row w1 _ 0 _ _ _ q1
  have z1 : w1.cell? ⟨fb, 1, none⟩ = some (.int .i64 (r.c.2 : Int)) := cell_of_row w1 _ 1 _ _ _ q1
  have z2 : w1.cell? ⟨db, 0, none⟩ = some (.pointer (some ⟨a, 0, none⟩)) := cell_of_row w1 _ 0 _ _ _ q2
  have z3 : w1.cell? ⟨tb, 0, none⟩ = some (.string t) := cell_of_row w1 _ 0 _ _ _ q3
  clear q1 q2 q3
  go_wp2_with fail
  refine (put_any t (hP.q _) ht r hr1 hap hu2 (by have : (adel s.data.toList ms).length ≤ ms.length := List.length_filter_le _ _; omega) hrl).mono ?_
  rintro e w' ⟨rfl, hP', hA'⟩
  go_wp2_with fail
  go_end0
  exact ⟨rfl, hP', hA1.trans hA' fun b e => .inl e⟩

set_option maxRecDepth 100000 in
set_option maxHeartbeats 1000000 in
theorem cl_cut {r : Raw} {s : ByteArray} {k : Nat} {fb db nb kb : Nat} (h : DkP w a mb ms most armed lv down) (hs : s.size ≤ maxLen)
    (hf : w.heap[fb]? = some (.cells #[r.sl, .int .i64 (r.c.2 : Int)] 97 (0, 0)))
    (hd : w.heap[db]? = some (.cells #[.pointer (some ⟨a, 0, none⟩)] 22 (0, 0))) (hn : w.heap[nb]? = some (.cells #[.string s] 9 (0, 0)))
    (hkb : w.heap[kb]? = some (.cells #[.int .i64 (k : Int)] 3 (0, 0)))
    (hr : FRow w r) (hk : k ≤ r.c.1.length) (hu : usedR ms ≤ 16777216) (hml : ms.length ≤ 1000) (hrl : r.c.1.length ≤ 16777216) :
    Calls Try.prog 60 #[.pointer (some ⟨db, 0, none⟩), .pointer (some ⟨nb, 0, none⟩), .pointer (some ⟨fb, 0, none⟩), .pointer (some ⟨kb, 0, none⟩)] w fun e w' =>
      e = .returned (.tuple #[]) ∧ ∃ r' : Raw, r'.c = (r.c.1.take k, k) ∧ (∀ b, r'.g = some b → w.heap.size ≤ b) ∧ DkP w' a mb (aput s.data.toList r' ms) most armed lv down ∧ Away (fun b => b = a ∨ b = mb) w w' := by
  have hsl : r.sl = .slice (r.g.map fun b => ⟨b, 0, none⟩) r.c.1.length r.cap := rfl
  have x0 : w.drew.cell? ⟨fb, 0, none⟩ = some r.sl := cell_of_row w _ 0 _ _ _ hf
  have x1 : w.drew.cell? ⟨fb, 1, none⟩ = some (.int .i64 (r.c.2 : Int)) := cell_of_row w _ 1 _ _ _ hf
  have d0 : w.drew.cell? ⟨db, 0, none⟩ = some (.pointer (some ⟨a, 0, none⟩)) := cell_of_row w _ 0 _ _ _ hd
  have n0 : w.drew.cell? ⟨nb, 0, none⟩ = some (.string s) := cell_of_row w _ 0 _ _ _ hn
  have k0 : w.drew.cell? ⟨kb, 0, none⟩ = some (.int .i64 (k : Int)) := cell_of_row w _ 0 _ _ _ hkb
  have hr2 : FRow w.drew r := hr
  have hP0 : DkP w.drew a mb ms most armed lv down := h.away (F := fun _ => False) (Away.refl _ w).drew (fun e => e) fun _ _ e => e
  have hW : Away (fun b => b = a ∨ b = mb) w w.drew := (Away.refl _ w).drew
  have hws : w.heap.size ≤ w.drew.heap.size := Nat.le_refl _
  have fo : ∀ {x : Nat}, ¬ (x = a ∨ FootR mb ms x) → ¬ (x = a ∨ x = mb) := fun hx e => hx (by rcases e with e | e; exact .inl e; exact .inr (.inl e))
  have of : ¬ (fb = a ∨ fb = mb) := fo (h.other hf (by decide) (by decide))
  have od : ¬ (db = a ∨ db = mb) := fo (h.other hd (by decide) (by decide))
  have on : ¬ (nb = a ∨ nb = mb) := fo (h.other hn (by decide) (by decide))
  have ok : ¬ (kb = a ∨ kb = mb) := fo (h.other hkb (by decide) (by decide))
  clear hf hd hn hkb h hr fo
  go_enter Try.func60, Try.ntmps60
  go_wp2_with fail
  refine wp_region_held_drew (S := fun w' => Away (fun b => b = a ∨ b = mb) w.drew w') (by kernel_rfl) (Away.refl _ _) (fun hHeld => ?_)
  generalize w.drew = wa at x0 x1 d0 n0 k0 hr2 hP0 hW hws hHeld ⊢
  refine wpAnyH_take (i := 0) (v := ?_) rfl (by kernel_rfl) (by kernel_rfl) (by kernel_rfl) (fun _ _ _ h => h) (Or.inl ⟨by rfl, ?_⟩) hHeld ?_
  rotate_left
  · (intro w' hSw; (try dsimp only at hSw); have v0 := away_cell hSw od d0; have v1 := away_cell hSw on n0; have v2 := away_cell hSw of x0; have v3 := away_cell hSw of x1; have v4 := away_cell hSw ok k0; clear hSw; go_simp <;> rfl)
  simp only [Act.put, List.getElem_toArray, List.getElem_cons_zero, List.getElem_cons_succ, List.setIfInBounds_toArray, List.set_cons_zero, List.set_cons_succ]
  refine wpAnyH_take (i := 1) (v := ?_) rfl (by kernel_rfl) (by kernel_rfl) (by kernel_rfl) (fun _ _ _ h => h) (Or.inl ⟨by rfl, ?_⟩) hHeld ?_
  rotate_left
  · (intro w' hSw; (try dsimp only at hSw); have v0 := away_cell hSw od d0; have v1 := away_cell hSw on n0; have v2 := away_cell hSw of x0; have v3 := away_cell hSw of x1; have v4 := away_cell hSw ok k0; clear hSw; go_simp <;> rfl)
  simp only [Act.put, List.getElem_toArray, List.getElem_cons_zero, List.getElem_cons_succ, List.setIfInBounds_toArray, List.set_cons_zero, List.set_cons_succ]
  refine wpAnyH_take (i := 2) (v := ?_) rfl (by kernel_rfl) (by kernel_rfl) (by kernel_rfl) (fun _ _ _ h => h) (Or.inl ⟨by rfl, ?_⟩) hHeld ?_
  rotate_left
  · (intro w' hSw; (try dsimp only at hSw); have v0 := away_cell hSw od d0; have v1 := away_cell hSw on n0; have v2 := away_cell hSw of x0; have v3 := away_cell hSw of x1; have v4 := away_cell hSw ok k0; clear hSw; go_simp <;> rfl)
  simp only [Act.put, List.getElem_toArray, List.getElem_cons_zero, List.getElem_cons_succ, List.setIfInBounds_toArray, List.set_cons_zero, List.set_cons_succ]
  refine wpAnyH_take (i := 3) (v := ?_) rfl (by kernel_rfl) (by kernel_rfl) (by kernel_rfl) (fun _ _ _ h => h) (Or.inl ⟨by rfl, ?_⟩) hHeld ?_
  rotate_left
  · (intro w' hSw; (try dsimp only at hSw); have v0 := away_cell hSw od d0; have v1 := away_cell hSw on n0; have v2 := away_cell hSw of x0; have v3 := away_cell hSw of x1; have v4 := away_cell hSw ok k0; clear hSw; go_simp <;> rfl)
  simp only [Act.put, List.getElem_toArray, List.getElem_cons_zero, List.getElem_cons_succ, List.setIfInBounds_toArray, List.set_cons_zero, List.set_cons_succ]
  refine wpAnyH_ready (rs := [4]) (by kernel_rfl) (by simp) ?_
  refine AllReadyH.cons rfl (fun K hK => ?_) AllReadyH.nil
  go_simp
  refine (first_any hr2 k hk hrl).mono ?_
  rintro ex w1 ⟨r', rfl, hc, hrow, hnew, hb1⟩
  dsimp only
  refine hK.out _ _ (Away.of_new hb1 _) (fun hHeld => ?_)
  clear hK K
  try simp only [Act.put, List.getElem_toArray, List.getElem_cons_zero, List.getElem_cons_succ, List.setIfInBounds_toArray, List.set_cons_zero, List.set_cons_succ]
  have hP1 := hP0.away (Away.of_below hb1) (fun e => by have := hP0.lt; omega) fun b hb e => by have := hP0.files.lt hb; omega
  have hap : ∀ p ∈ ms, p.1 ≠ s.data.toList → ∀ b, r'.g = some b → p.2.g ≠ some b := fun p hp _ b hb e => by
    have h1 := hnew b hb
    have h2 := (hP0.files.rows p hp).lt e
    omega
  refine wpAnyH_ready (rs := [5]) (by kernel_rfl) (by simp) ?_
  refine AllReadyH.cons rfl (fun K hK => ?_) AllReadyH.nil
  go_simp
  refine (put_any s (hP1.q _) hs r' hrow hap hu hml (by rw [hc]; simp; omega)).mono ?_
  rintro ex w2 ⟨rfl, hP2, hA2⟩
  dsimp only
  have hA3 : Away (fun b => b = a ∨ b = mb) wa w2 := (Away.of_new hb1 _).trans hA2 fun b e => .inl e
  refine hK.out _ _ hA3 (fun hHeld => ?_)
  clear hK K
  refine wpAnyH_done (by kernel_rfl) ?_ _
  go_wp2_with fail
  go_end0
  exact ⟨rfl, r', hc, fun b hb => Nat.le_trans hws (hnew b hb), hP2, hW.trans hA3 fun b e => .inl e⟩
end
end Go.Proofs.Ytdcflgblaljdeaa
