/-
  The disk's own calls within: first, find.
-/
import Derived.Test.YtdcflgblaljdeaaDkDrop
import Derived.OwnWalk
set_option linter.unusedVariables false
set_option linter.unusedSimpArgs false
namespace Go.Proofs.Ytdcflgblaljdeaa
open Go.RowKit Go.Maps
open Go.Lib (byteCells byteCells_length byteCells_append)

theorem addr_zero' (A : Option Addr) (c : Nat) : (if c = 0 then A else A.map (·.add 0)) = A := by
  split
  · rfl
  · cases A <;> rfl
theorem run_toB (w : World) (A : Option Addr) (n c j : Nat) (hj : j ≤ c) :
    (Instr.slice 26 (.slice A n c) none (some (.int .i64 (j : Int))) none).run Try.prog w = .ok (.slice A j c) w := by
  obtain ⟨i0, hi0, hz0, hz1, hz2⟩ := info_parts infoU8
  have ht : Try.prog.underlying 26 = some (.slice (Try.prog.elem 26)) := by simp [Program.elem, Try.underlying26]
  have he : Try.prog.elem 26 = 5 := by simp [Program.elem, Try.underlying26]
  rw [run_slice_h w 26 A n c ht .i64 (j : Int) (by omega) (by omega), he]
  simp [sizeOf, typeInfo, hi0, hz1, Result.andThen, sliced]
  intro hc
  have := addr_zero' A c
  rw [if_neg hc] at this
  exact this
theorem IsB.toB {w : World} {A : Option Addr} {n c : Nat} {l : List UInt8} (h : IsB w A n c l) {j : Nat} (hj : j ≤ n) : IsB w A j c (l.take j) := by
  refine ⟨by rw [List.length_take, h.len]; omega, Nat.le_trans hj h.cap, h.none_, ?_⟩
  rcases h.src with rfl | ⟨b, o, hA, hc⟩
  · exact .inl (List.take_nil ..)
  · refine .inr ⟨b, o, hA, fun i x hi => hc i x ?_⟩
    have hl := (List.getElem?_eq_some_iff.1 hi).1
    rw [List.length_take] at hl
    rwa [List.getElem?_take_of_lt (by omega)] at hi

theorem rowA {W : World} {B : Option Addr} {m c : Nat} {news : List UInt8} (hB : IsB W B m c news) (hm : m ≤ 70368744177664) (s : Nat) (ty : TypeId) :
    ∃ v' w', (Builtin.append_ #[26, 26] ty #[.slice none 0 0, .slice B m c]).run Try.prog W = .ok v' w' ∧ ∃ (g : Option Nat) (cap : Nat), v' = .slice (g.map fun b => ⟨b, 0, none⟩) m cap ∧ FRow w' ⟨g, cap, (news, s)⟩ ∧ (∀ b, g = some b → W.heap.size ≤ b) ∧ Below W.heap.size W w' := by
  obtain ⟨⟨g, cap, c'⟩, w', hr, hc, hrow, hg, hat⟩ := row_append (w := W) (r := ⟨none, 0, ([], s)⟩) (FRow.zero W) ty hB (by simpa using hm)
  simp only [List.nil_append] at hc
  subst hc
  refine ⟨_, w', hr, g, cap, by unfold Raw.sl; rw [hB.len], hrow, fun b hb => ?_, ⟨hg.os, hg.tape, hg.output, hg.size, fun b hb => hg.block b hb (by simp)⟩⟩
  rcases hat with e | e
  · simp at e; rw [e] at hb; cases hb
  · simp at e; rw [e] at hb; cases hb; exact Nat.le_refl _
set_option maxRecDepth 100000 in
set_option maxHeartbeats 1000000 in
theorem first_any {w : World} {r : Raw} (hr : FRow w r) (n : Nat) (hn : n ≤ r.c.1.length) (hl : r.c.1.length ≤ 16777216) :
    Calls Try.prog 61 #[r.val, .int .i64 (n : Int)] w fun e w' =>
      ∃ r' : Raw, e = .returned r'.val ∧ r'.c = (r.c.1.take n, n) ∧ FRow w' r' ∧ (∀ b, r'.g = some b → w.heap.size ≤ b) ∧ Below w.heap.size w w' := by
  have hB := hr.isB
  obtain ⟨A, hA⟩ : ∃ A : Option Addr, (r.g.map fun b => (⟨b, 0, none⟩ : Addr)) = A := ⟨_, rfl⟩
  obtain ⟨m, hm⟩ : ∃ m, r.c.1.length = m := ⟨_, rfl⟩
  have hv : r.val = .agg #[.slice A m r.cap, .int .i64 (r.c.2 : Int)] := by unfold Raw.val Raw.sl; rw [hA, hm]
  rw [hA, hm] at hB
  rw [hm] at hn hl
  rw [hv]
  obtain ⟨L, hL⟩ : ∃ L, r.c.1 = L := ⟨_, rfl⟩
  rw [hL] at hB ⊢
  have hcap := hB.cap
  have hto := fun w => run_toB w A m r.cap n (by omega)
  have hT := hB.toB hn
  clear hv hA hm hr hL
  generalize r.cap = cp at *
  generalize r.c.2 = sy at *
  go_enter Try.func61, Try.ntmps61
  have hh := rowA ((hT.alloc (.cells #[.slice A m cp, .int .i64 (sy : Int)] 97)).alloc (.cells #[.slice none 0 0, .int .i64 0] 97)) (by omega) n 0
  have hq : ((w.alloc (.cells #[.slice A m cp, .int .i64 (sy : Int)] 97)).alloc (.cells #[.slice none 0 0, .int .i64 0] 97)).heap[w.heap.size + 1]? = some (.cells #[.slice none 0 0, .int .i64 0] 97) := by
    have := heap_alloc_new (w.alloc (.cells #[.slice A m cp, .int .i64 (sy : Int)] 97)) (.cells #[.slice none 0 0, .int .i64 0] 97)
    simpa using this
  have hBl := ((Below.refl w.heap.size w).alloc (Nat.le_refl _) (.cells #[.slice A m cp, .int .i64 (sy : Int)] 97)).alloc (by simp) (.cells #[.slice none 0 0, .int .i64 0] 97)
  have hsz : ((w.alloc (.cells #[.slice A m cp, .int .i64 (sy : Int)] 97)).alloc (.cells #[.slice none 0 0, .int .i64 0] 97)).heap.size = w.heap.size + 2 := by simp
  have HQ := Lib.hid hq
  have HSZ := Lib.hid hsz
  clear hq hsz
  go_wp2_with (at_builtin; refine wpList_run _ rfl (.const (.slice none 0 0)) (.tmp 8) 26 rfl hh ?_; rintro v' w' ⟨g, cap, rfl, hrow, hgn, hb'⟩; have q1 : w'.heap[w.heap.size + 1]? = some (.cells #[.slice none 0 0, .int .i64 0] 97) := (hb'.block _ (by rw [HSZ.out]; omega)).trans HQ.out; have y0 : w'.cell? ⟨w.heap.size + 1, 0, none⟩ = some (.slice none 0 0) := cell_of_row w' _ 0 _ _ _ q1; have y1 : w'.cell? ⟨w.heap.size + 1, 1, none⟩ = some (.int .i64 0) := cell_of_row w' _ 1 _ _ _ q1; have yf0 := free_of_row q1 0; have yf1 := free_of_row q1 1; clear q1 hh)
  have hTl := hT.len
  have hval : (⟨g, cap, (L.take n, n)⟩ : Raw).val = .agg #[.slice (g.map fun b => ⟨b, 0, none⟩) n cap, .int .i64 (n : Int)] := by
    unfold Raw.val Raw.sl
    rw [hTl]
  have hgs : ∀ b, g = some b → b ≠ w.heap.size + 1 := fun b hb => by have := hgn b hb; rw [HSZ.out] at this; omega
  have hbn : ∀ b, g = some b → w.heap.size ≤ b := fun b hb => by have := hgn b hb; rw [HSZ.out] at this; omega
  rw [HSZ.out] at hb'
  have hbb := hBl.trans (hb'.mono (by omega))
  refine bodyPost_ret (v := .agg #[.slice (g.map fun b => ⟨b, 0, none⟩) n cap, .int .i64 (n : Int)]) (by simp [results, Try.results61, go_sem, y0, y1]) rfl ⟨⟨g, cap, (L.take n, n)⟩, by rw [hval], rfl, ?_, hbn, ?_⟩
  · exact (hrow.away (Away.setCell _ ⟨w.heap.size + 1, 0, none⟩ _) hgs).away (Away.setCell _ ⟨w.heap.size + 1, 1, none⟩ _) hgs
  · exact (hbb.setCell (p := ⟨w.heap.size + 1, 0, none⟩) (by simp) _).setCell (p := ⟨w.heap.size + 1, 1, none⟩) (by simp) _

set_option maxRecDepth 100000 in
set_option maxHeartbeats 1000000 in
theorem find_down {w : World} {a mb : Nat} {ms : List (Nm × Raw)} {most : Nat} {armed : Bool} {lv : Int} (h : DkP w a mb ms most armed lv true) (s : ByteArray) :
    Calls Try.prog 59 #[.pointer (some ⟨a, 0, none⟩), .string s] w fun e w' => e = .returned (.tuple #[Raw.zero.val, .int .i64 15]) ∧ Below w.heap.size w w' := by
  have hb := (Below.refl w.heap.size w).alloc (Nat.le_refl _) (.cells #[.slice none 0 0, .int .i64 0] 97)
  have h1 := h.away (Away.of_below hb) (by have := h.lt; omega) fun b hb => by have := h.files.lt hb; omega
  go_enter Try.func59, Try.ntmps59
  go_wp2_with fail
  refine (ready_any h1).mono ?_
  rintro e w' ⟨rfl, rfl⟩
  go_wp2_with fail
  refine bodyPost_ret (v := .tuple #[Raw.zero.val, .int .i64 15]) (by simp [results, Try.results59, go_sem]; rfl) rfl ⟨rfl, ?_⟩
  exact hb

set_option maxRecDepth 100000 in
set_option maxHeartbeats 1000000 in
theorem find_none {w : World} {a mb : Nat} {ms : List (Nm × Raw)} {most : Nat} {armed : Bool} {lv : Int} (h : DkP w a mb ms most armed lv false) (s : ByteArray) (hs : s.size ≤ maxLen) (hn : aget s.data.toList ms = none) :
    Calls Try.prog 59 #[.pointer (some ⟨a, 0, none⟩), .string s] w fun e w' => e = .returned (.tuple #[Raw.zero.val, .int .i64 13]) ∧ Below w.heap.size w w' := by
  have hb := (Below.refl w.heap.size w).alloc (Nat.le_refl _) (.cells #[.slice none 0 0, .int .i64 0] 97)
  have h1 := h.away (Away.of_below hb) (by have := h.lt; omega) fun b hb => by have := h.files.lt hb; omega
  have hlk := look_ok_run h1.files hs
  rw [show atR ms s.data.toList = Raw.zero by unfold atR; rw [hn]; rfl, hn] at hlk
  have c2 : (w.alloc (.cells #[.slice none 0 0, .int .i64 0] 97)).cell? ⟨a, 2, none⟩ = some (.map (some mb)) := h1.cell 2
  simp only [Raw.val, Raw.sl, Raw.zero, Option.map_none, Option.isSome_none, List.length_nil] at hlk
  have hlk' : (Instr.lookup 61 (.map (some mb)) (.string s) true).run Try.prog (w.alloc (.cells #[.slice none 0 0, .int .i64 0] 97)) = .ok (.tuple #[.agg #[.slice none 0 0, .int .i64 0], .bool false]) (w.alloc (.cells #[.slice none 0 0, .int .i64 0] 97)) := hlk
  clear hlk hn
  go_enter Try.func59, Try.ntmps59
  go_wp2_with fail
  refine (ready_any h1).mono ?_
  rintro e w' ⟨rfl, rfl⟩
  clear h1
  go_wp2_with fail
  refine bodyPost_ret (v := .tuple #[Raw.zero.val, .int .i64 13]) (by simp [results, Try.results59, go_sem]; rfl) rfl ⟨rfl, ?_⟩
  exact hb.alloc (by simp) _

set_option maxRecDepth 100000 in
set_option maxHeartbeats 1000000 in
theorem find_some {w : World} {a mb : Nat} {ms : List (Nm × Raw)} {most : Nat} {armed : Bool} {lv : Int} (h : DkP w a mb ms most armed lv false) (s : ByteArray) (hs : s.size ≤ maxLen) {r : Raw} (hn : aget s.data.toList ms = some r) :
    Calls Try.prog 59 #[.pointer (some ⟨a, 0, none⟩), .string s] w fun e w' => e = .returned (.tuple #[r.val, .int .i64 0]) ∧ Below w.heap.size w w' := by
  have hb := (Below.refl w.heap.size w).alloc (Nat.le_refl _) (.cells #[.slice none 0 0, .int .i64 0] 97)
  have h1 := h.away (Away.of_below hb) (by have := h.lt; omega) fun b hb => by have := h.files.lt hb; omega
  have hlk := look_ok_run h1.files hs
  rw [show atR ms s.data.toList = r by unfold atR; rw [hn]; rfl, hn] at hlk
  have c2 : (w.alloc (.cells #[.slice none 0 0, .int .i64 0] 97)).cell? ⟨a, 2, none⟩ = some (.map (some mb)) := h1.cell 2
  simp only [Raw.val, Raw.sl, Option.isSome_some] at hlk
  unfold Raw.val Raw.sl
  generalize (r.g.map fun b => (⟨b, 0, none⟩ : Addr)) = A at hlk ⊢
  generalize r.c.1.length = n at hlk ⊢
  clear hn
  go_enter Try.func59, Try.ntmps59
  go_wp2_with fail
  refine (ready_any h1).mono ?_
  rintro e w' ⟨rfl, rfl⟩
  clear h1
  go_wp2_with fail
  refine bodyPost_ret (v := .tuple #[.agg #[.slice A n r.cap, .int .i64 (r.c.2 : Int)], .int .i64 0]) (by simp [results, Try.results59, go_sem]) rfl ⟨rfl, ?_⟩
  exact ((Below.refl _ w).alloc (Nat.le_refl _) _).alloc (by simp) _
end Go.Proofs.Ytdcflgblaljdeaa
