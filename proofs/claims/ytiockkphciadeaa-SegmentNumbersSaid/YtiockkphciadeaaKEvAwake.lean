/-
  The chapter's examples come out as written.
-/
import Derived.Test.YtiockkphciadeaaK4
import Derived.Test.YtiockkphciadeaaK1
import Derived.KernelRfl
set_option linter.unusedVariables false
set_option linter.unusedSimpArgs false
namespace Go.Proofs.Ytiockkphciadeaa
open Go.RowKit
open Go.Lib (byteCells byteCells_length byteCells_append uvarint)

theorem new_bytes (w : World) (l : List UInt8) (cs : Array Value) (t : TypeId) (fr : Nat × Nat) (m : Nat) (h : cs = (byteCells l).toArray) (hm : l.length = m) : IsB (w.alloc (.cells cs t fr)) (some ⟨w.heap.size, 0, none⟩) m m l := by
  subst h; subst hm
  refine ⟨rfl, Nat.le_refl _, (fun e => by cases e), .inr ⟨_, 0, rfl, fun j u hj => ?_⟩⟩
  rw [cell_of_row _ _ _ _ _ _ (heap_alloc_new w _)]
  simp [byteCells, hj]
set_option maxRecDepth 100000 in
theorem is_any {w : World} {A : Option Addr} {n c : Nat} {l : List UInt8} {B : Option Addr} {m d : Nat} {k : List UInt8} (h1 : IsB w A n c l) (h2 : IsB w B m d k) :
    Calls Try.prog 83 #[.slice A n c, .slice B m d] w fun e w' => e = .returned (.bool (decide (l = k))) ∧ w = w' := by
  have H := Lib.hid (samebytes_any h1 h2)
  clear h1 h2
  go_enter Try.func83, Try.ntmps83
  go_wp2_with fail
  refine H.out.mono ?_
  rintro e w' ⟨rfl, rfl⟩
  go_wp2_with fail
  go_ret
  exact ⟨rfl, rfl⟩
theorem is_true {w : World} {A : Option Addr} {n c : Nat} {l : List UInt8} {B : Option Addr} {m d : Nat} (h1 : IsB w A n c l) (h2 : IsB w B m d l) :
    Calls Try.prog 83 #[.slice A n c, .slice B m d] w fun e w' => e = .returned (.bool true) ∧ w = w' := by
  have := is_any h1 h2
  rwa [decide_eq_true rfl] at this

def body0 : List UInt8 := [1, 0, 0, 0, 0, 0]
theorem body0_of : bodyOf [Ev.zero] = body0 := by
  unfold bodyOf
  show uvarint 1 ++ (encEv Ev.zero Ev.zero ++ []) = _
  rw [encEv_self, Lib.uvarint_small (by decide)]
  rfl
def frame0 : List UInt8 := 6 :: (body0 ++ sumBytes (crc body0))
theorem frame0_of : frameOf [Ev.zero] = frame0 := by
  unfold frameOf sealed
  rw [body0_of, show body0.length = 6 by rfl, Lib.uvarint_small (by decide)]
  rfl
theorem evs0 : Evs [Ev.zero] := ⟨by decide, by decide, fun x hx => by simp at hx; subst hx; exact Ev.zero_ok⟩
theorem rd0 : rdFrame frame0 0 = ([Ev.zero], 11, 0) := by
  have h := rdFrame_frame (l := frame0) (r := []) (k := 0) evs0 (by rw [frame0_of, List.drop_zero, List.append_nil])
  rw [h, frame0_of]
  rfl
theorem crc0 : crc body0 = 2057204230 := by decide +kernel
theorem frame0_is : frame0 = [6, 1, 0, 0, 0, 0, 0, 122, 158, 114, 6] := by
  unfold frame0
  rw [crc0]
  rfl
theorem rd1 : rdFrame [6, 1, 0, 0, 0, 0, 0, 122, 158, 114, 7] 0 = ([], 0, 12) := by kernel_rfl
theorem svar_small (x : Int) (n : Nat) (h : Lib.zigzag x = n) (hn : n < 128) : svar x = [n.toUInt8] := by
  unfold svar
  rw [h, Lib.uvarint_small hn]
theorem put1 : encEv Ev.zero ⟨1, 2, 3, 4, -1⟩ = [2, 2, 6, 8, 1] := by
  have e1 : dif 0 1 = 1 := by unfold dif wrap64; omega
  have e2 : dif 0 3 = 3 := by unfold dif wrap64; omega
  have e3 : dif 0 4 = 4 := by unfold dif wrap64; omega
  have e4 : dif 0 (-1) = -1 := by unfold dif wrap64; omega
  unfold encEv Ev.zero
  dsimp only
  rw [e1, e2, e3, e4, svar_small 1 2 rfl (by decide), svar_small 3 6 rfl (by decide), svar_small 4 8 rfl (by decide), svar_small (-1) 1 rfl (by decide)]
  rfl
theorem ev_lit (w : World) (x : Ev) (t : TypeId) (fr : Nat × Nat) : IsEv (w.alloc (.cells #[.int .i64 x.th, .int .u8 (x.op : Int), .int .i64 x.obj, .int .i64 x.a, .int .i64 x.b] t fr)) (some ⟨w.heap.size, 0, none⟩) 1 1 [x] := by
  refine ⟨rfl, Nat.le_refl _, (fun e => by cases e), .inr ⟨_, 0, rfl, fun j y hj f u hu => ?_⟩⟩
  match j, hj with
  | 0, hj =>
    simp at hj; subst hj
    rw [cell_of_row _ _ _ _ _ _ (heap_alloc_new w _)]
    rw [← hu]
    simp [Ev.cells]
theorem IsB.front7 {w : World} {A : Option Addr} {c : Nat} (h : IsB w A 11 c [6, 1, 0, 0, 0, 0, 0, 122, 158, 114, 6]) : IsB w A 7 c [6, 1, 0, 0, 0, 0, 0] := by
  refine ⟨rfl, by have := h.cap; omega, h.none_, ?_⟩
  rcases h.src with h0 | ⟨b, o, hA, hc⟩
  · cases h0
  · refine .inr ⟨b, o, hA, fun j u hj => hc j u ?_⟩
    have hj7 : j < 7 := (List.getElem?_eq_some_iff.1 hj).1
    rw [← hj]
    match j, hj7 with
    | 0, _ => rfl
    | 1, _ => rfl
    | 2, _ => rfl
    | 3, _ => rfl
    | 4, _ => rfl
    | 5, _ => rfl
    | 6, _ => rfl
theorem frame_lit (w : World) (t : TypeId) : Calls Try.prog 31 #[.slice (some ⟨w.heap.size, 0, none⟩) 1 1] (w.alloc (.cells #[.int .i64 0, .int .u8 0, .int .i64 0, .int .i64 0, .int .i64 0] t)) fun e w' =>
    ∃ g c, e = .returned (.tuple #[.slice (some ⟨g, 0, none⟩) 11 c, .int .i64 0]) ∧ Mine w' g 5 c [6, 1, 0, 0, 0, 0, 0, 122, 158, 114, 6] ∧ w.heap.size < g ∧ 11 ≤ c ∧ Below w.heap.size w w' := by
  refine (Frame_any _ 1 1 [Ev.zero] _ (ev_lit w Ev.zero t (0, 0)) (by decide) (by decide) evs0.ok).mono ?_
  rintro e w' ⟨v, rfl, ho, hb⟩
  rw [frame0_of, frame0_is] at ho
  obtain ⟨g, c, rfl, hg, _, hm⟩ := own_mine_at (n := 11) ho rfl (by decide)
  refine ⟨g, c, rfl, hm, by simp at hg; omega, ?_, bstep (Below.refl _ _) hb⟩
  obtain ⟨_, _, _, hc, _⟩ := hm
  exact hc
theorem Read_lit {w : World} {A : Option Addr} {n c : Nat} {l : List UInt8} {r : List Ev × Nat × Nat} (h : IsB w A n c l) (hn : n ≤ 1000000) (hr : rdFrame l 0 = r) :
    Calls Try.prog 32 #[.slice A n c, .int .i64 0] w fun e w' => (∃ B m d, e = .returned (.tuple #[.slice B m d, .int .i64 (r.2.1 : Int), .int .i64 (r.2.2 : Int)]) ∧ OwnE w' w.heap.size (.slice B m d) r.1 ∧ m = r.1.length) ∧ Below w.heap.size w w' := by
  subst hr
  refine (Read_any A n c 0 l w h hn (by omega)).mono ?_
  rintro e w' ⟨⟨v, he, ho⟩, hb⟩
  obtain ⟨B, m, d, rfl, _, hm, _⟩ := ho.is_
  exact ⟨⟨B, m, d, he, ho, hm⟩, hb⟩

set_option maxRecDepth 100000 in
set_option maxHeartbeats 2000000 in
theorem awake3_any (w : World) : Calls Try.prog 34 #[] w fun e w' => e = .returned (.bool true) ∧ Below w.heap.size w w' := by
  go_enter Try.func34, Try.ntmps34
  go_wp2_with fail
  have hq0 : (w.alloc (.cells #[.int .i64 1, .int .u8 2, .int .i64 3, .int .i64 4, .int .i64 (-1)] 54)).heap[w.heap.size]? = some (.cells #[.int .i64 1, .int .u8 2, .int .i64 3, .int .i64 4, .int .i64 (-1)] 54 (0, 0)) := heap_alloc_new _ _
  have hB0 : Below w.heap.size w (w.alloc (.cells #[.int .i64 1, .int .u8 2, .int .i64 3, .int .i64 4, .int .i64 (-1)] 54)) := (Below.refl _ _).alloc (Nat.le_refl _) _
  have hz0 : (w.alloc (.cells #[.int .i64 1, .int .u8 2, .int .i64 3, .int .i64 4, .int .i64 (-1)] 54)).heap.size = w.heap.size + 1 := by simp
  rw [← hz0]
  generalize w.alloc (.cells #[.int .i64 1, .int .u8 2, .int .i64 3, .int .i64 4, .int .i64 (-1)] 54) = w0 at hq0 hB0 hz0 ⊢
  refine (frame_lit w0 54).mono ?_
  rintro e w1 ⟨g, c, rfl, hM, hg, hc, hb1⟩
  have hB1 := bstep0 hB0 hb1
  have hq1 := (hb1.block _ (by omega)).trans hq0
  have hI1 := hM.is_ (n := 11) rfl
  have h7 := hI1.front7
  have hgz : w.heap.size < g := by omega
  clear hb1 hq0 hB0
  go_wp2_with fail
  refine (is_true (h7.alloc _) (new_bytes w1 [6, 1, 0, 0, 0, 0, 0] #[.int .u8 6, .int .u8 1, .int .u8 0, .int .u8 0, .int .u8 0, .int .u8 0, .int .u8 0] _ _ 7 rfl rfl)).mono ?_
  rintro e w2 ⟨rfl, rfl⟩
  have hI2 := hI1.alloc (.cells #[.int .u8 6, .int .u8 1, .int .u8 0, .int .u8 0, .int .u8 0, .int .u8 0, .int .u8 0] 5)
  have hM2 := hM.below ((Below.refl _ w1).alloc (Nat.le_refl _) (.cells #[.int .u8 6, .int .u8 1, .int .u8 0, .int .u8 0, .int .u8 0, .int .u8 0, .int .u8 0] 5))
  have hB2 := hB1.alloc hB1.size (.cells #[.int .u8 6, .int .u8 1, .int .u8 0, .int .u8 0, .int .u8 0, .int .u8 0, .int .u8 0] 5)
  have hq2 := (heap_alloc_old w1 (.cells #[.int .u8 6, .int .u8 1, .int .u8 0, .int .u8 0, .int .u8 0, .int .u8 0, .int .u8 0] 5) (by exact (Array.getElem?_eq_some_iff.1 hq1).1)).trans hq1
  clear hI1 h7 hM hB1 hq1
  go_wp2_with fail
  generalize w1.alloc (.cells #[.int .u8 6, .int .u8 1, .int .u8 0, .int .u8 0, .int .u8 0, .int .u8 0, .int .u8 0] 5) = w2 at hI2 hM2 hB2 hq2 ⊢
  have hr0 : rdFrame [6, 1, 0, 0, 0, 0, 0, 122, 158, 114, 6] 0 = ([Ev.zero], 11, 0) := by rw [← frame0_is]; exact rd0
  refine (Read_lit hI2 (by decide) hr0).mono ?_
  rintro e w3 ⟨⟨B, m, d, rfl, hO3, hm⟩, hb3⟩
  obtain rfl : m = 1 := hm
  have hM3 := hM2.below hb3
  have hB3 := bstep0 hB2 hb3
  have hq3 := (hb3.block _ (Array.getElem?_eq_some_iff.1 hq2).1).trans hq2
  have x10 : w3.cell? ⟨g, 10, none⟩ = some (.int .u8 6) := hM3.cell (k := 10) (u := 6) rfl
  have f10 := hM3.free 10
  have hM4 := hM3.put 10 7 7 rfl
  have hA4 := Away.setCell w3 ⟨g, 10, none⟩ (.int .u8 7)
  have hgt : ∃ cur, w3.heap[g]? = some (.cells cur 5 (0, 0)) := by obtain ⟨cur, hcur, _⟩ := hM3; exact ⟨cur, hcur⟩
  have hO4 := hO3.away hA4 fun b hb e => by
    obtain ⟨cs, hcs, _⟩ := hO3.type hb
    obtain ⟨cur, hcur⟩ := hgt
    have e' : b = g := e
    subst e'
    rw [hcs] at hcur; simp at hcur
  have hq4 := (hA4.block w.heap.size (Array.getElem?_eq_some_iff.1 hq3).1 (by show ¬ (w.heap.size = g); omega)).trans hq3
  have hB4 := hB3.setCell (p := ⟨g, 10, none⟩) (by show w.heap.size ≤ g; omega) (.int .u8 7)
  have hI4 := hM4.is_ (n := 11) rfl
  clear hI2 hM2 hB2 hq2 hb3 hO3 hM3 hB3 hq3 hA4 hgt hM4
  go_wp2_with fail
  have hr1 : rdFrame ([6, 1, 0, 0, 0, 0, 0, 122, 158, 114, 6].set 10 7) 0 = ([], 0, 12) := rd1
  generalize w3.setCell ⟨g, 10, none⟩ (.int .u8 7) = w4 at hO4 hq4 hB4 hI4 ⊢
  refine (Read_lit hI4 (by decide) hr1).mono ?_
  rintro e w5 ⟨⟨B2, m2, d2, rfl, _, hm2⟩, hb5⟩
  obtain rfl : m2 = 0 := hm2
  have hO5 := hO4.below hb5
  have hB5 := bstep0 hB4 hb5
  have hq5 := (hb5.block _ (Array.getElem?_eq_some_iff.1 hq4).1).trans hq4
  have y0 : w5.cell? ⟨w.heap.size, 0, none⟩ = some (.int .i64 1) := cell_of_row _ _ 0 _ _ _ hq5
  have y1 : w5.cell? ⟨w.heap.size, 1, none⟩ = some (.int .u8 2) := cell_of_row _ _ 1 _ _ _ hq5
  have y2 : w5.cell? ⟨w.heap.size, 2, none⟩ = some (.int .i64 3) := cell_of_row _ _ 2 _ _ _ hq5
  have y3 : w5.cell? ⟨w.heap.size, 3, none⟩ = some (.int .i64 4) := cell_of_row _ _ 3 _ _ _ hq5
  have y4 : w5.cell? ⟨w.heap.size, 4, none⟩ = some (.int .i64 (-1)) := cell_of_row _ _ 4 _ _ _ hq5
  have HQ5 := Lib.hid hq5
  clear hO4 hq4 hB4 hI4 hb5 hr0 hr1 x10 f10 hq5
  go_wp2_with fail
  refine (Put_any none 0 0 [] ⟨1, 2, 3, 4, -1⟩ Ev.zero w5 (IsB.nil _) (by decide) (by decide)).mono ?_
  rintro e w6 ⟨v, rfl, ho6, hb6⟩
  rw [List.nil_append, put1] at ho6
  obtain ⟨B6, m6, d6, rfl, hI6⟩ := own_slice ho6
  have hB6 := bstep0 hB5 hb6
  have hO6 := hO5.below hb6
  have hq6 := (hb6.block _ (Array.getElem?_eq_some_iff.1 HQ5.out).1).trans HQ5.out
  clear hO5 hB5 hb6 HQ5 y0 y1 y2 y3 y4 ho6
  go_wp2_with fail
  refine (is_true (hI6.alloc _) (new_bytes w6 [2, 2, 6, 8, 1] #[.int .u8 2, .int .u8 2, .int .u8 6, .int .u8 8, .int .u8 1] _ _ 5 rfl rfl)).mono ?_
  rintro e w7 ⟨rfl, rfl⟩
  have hb7 := (Below.refl _ w6).alloc (Nat.le_refl _) (.cells #[.int .u8 2, .int .u8 2, .int .u8 6, .int .u8 8, .int .u8 1] 5)
  have hB7 := bstep0 hB6 hb7
  have hO7 := hO6.below hb7
  have hq7 := (hb7.block _ (Array.getElem?_eq_some_iff.1 hq6).1).trans hq6
  clear hO6 hB6 hq6 hI6
  generalize w6.alloc (.cells #[.int .u8 2, .int .u8 2, .int .u8 6, .int .u8 8, .int .u8 1] 5) = w7 at hb7 hB7 hO7 hq7 ⊢
  have hb8 := (Below.refl _ w7).alloc (Nat.le_refl _) (.cells #[.int .u8 9] 5)
  have hB8 := bstep0 hB7 hb8
  have hO8 := hO7.below hb8
  have hq8 := (hb8.block _ (Array.getElem?_eq_some_iff.1 hq7).1).trans hq7
  have hI8 : IsB (w7.alloc (.cells #[.int .u8 9] 5)) (some ⟨w7.heap.size, 0, none⟩) 1 1 [9] := new_bytes w7 [9] #[.int .u8 9] _ _ 1 rfl rfl
  have y0 : (w7.alloc (.cells #[.int .u8 9] 5)).cell? ⟨w.heap.size, 0, none⟩ = some (.int .i64 1) := cell_of_row _ _ 0 _ _ _ hq8
  have y1 : (w7.alloc (.cells #[.int .u8 9] 5)).cell? ⟨w.heap.size, 1, none⟩ = some (.int .u8 2) := cell_of_row _ _ 1 _ _ _ hq8
  have y2 : (w7.alloc (.cells #[.int .u8 9] 5)).cell? ⟨w.heap.size, 2, none⟩ = some (.int .i64 3) := cell_of_row _ _ 2 _ _ _ hq8
  have y3 : (w7.alloc (.cells #[.int .u8 9] 5)).cell? ⟨w.heap.size, 3, none⟩ = some (.int .i64 4) := cell_of_row _ _ 3 _ _ _ hq8
  have y4 : (w7.alloc (.cells #[.int .u8 9] 5)).cell? ⟨w.heap.size, 4, none⟩ = some (.int .i64 (-1)) := cell_of_row _ _ 4 _ _ _ hq8
  clear hq7 hO7 hB7 hb7 hb8 hq8
  go_wp2_with fail
  generalize w7.alloc (.cells #[.int .u8 9] 5) = w8 at hB8 hO8 hI8 y0 y1 y2 y3 y4 ⊢
  refine (Put_any _ 1 1 [9] ⟨1, 2, 3, 4, -1⟩ ⟨1, 2, 3, 4, -1⟩ w8 hI8 (by decide) (by decide)).mono ?_
  rintro e w9 ⟨v, rfl, ho9, hb9⟩
  rw [encEv_self] at ho9
  obtain ⟨B9, m9, d9, rfl, hI9⟩ := own_slice ho9
  have hB9 := bstep0 hB8 hb9
  have hO9 := hO8.below hb9
  clear y0 y1 y2 y3 y4 hB8 hO8 hI8 ho9 hb9
  go_wp2_with fail
  refine (is_true (hI9.alloc _) (new_bytes w9 [9, 2, 0, 0, 0, 0] #[.int .u8 9, .int .u8 2, .int .u8 0, .int .u8 0, .int .u8 0, .int .u8 0] _ _ 6 rfl rfl)).mono ?_
  rintro e w10 ⟨rfl, rfl⟩
  have hb10 := (Below.refl _ w9).alloc (Nat.le_refl _) (.cells #[.int .u8 9, .int .u8 2, .int .u8 0, .int .u8 0, .int .u8 0, .int .u8 0] 5)
  have hB10 := bstep0 hB9 hb10
  have hO10 := hO9.below hb10
  clear hB9 hO9 hI9
  generalize w9.alloc (.cells #[.int .u8 9, .int .u8 2, .int .u8 0, .int .u8 0, .int .u8 0, .int .u8 0] 5) = w10 at hb10 hB10 hO10 ⊢
  have hmk : ∀ u : World, (Instr.makeSlice 60 (.int .i64 1) (.int .i64 1)).run Try.prog u = .ok (.slice (some ⟨u.heap.size, 0, none⟩) 1 1) (u.alloc (.cells #[.int .i64 0, .int .u8 0, .int .i64 0, .int .i64 0, .int .i64 0] 54)) := fun _ => by kernel_rfl
  go_wp2_with fail
  have hI10 : IsEv (w10.alloc (.cells #[.int .i64 0, .int .u8 0, .int .i64 0, .int .i64 0, .int .i64 0] 54)) (some ⟨w10.heap.size, 0, none⟩) 1 1 [Ev.zero] := ev_lit w10 Ev.zero _ _
  have hb11 := (Below.refl _ w10).alloc (Nat.le_refl _) (.cells #[.int .i64 0, .int .u8 0, .int .i64 0, .int .i64 0, .int .i64 0] 54)
  have hO11 := hO10.below hb11
  obtain ⟨B', m', d', he, hE, -, -⟩ := hO11.is_
  simp only [Value.slice.injEq] at he
  obtain ⟨rfl, rfl, rfl⟩ := he
  refine (sameev_any hE hI10 (by decide) (by decide)).mono ?_
  rintro e w12 ⟨rfl, hb12⟩
  have hB12 := bstep0 (bstep0 hB10 hb11) hb12
  rw [decide_eq_true rfl]
  clear hmk hE hI10 hO11 hO10 hb10 hB10 hb11 hb12
  go_wp2_with fail
  go_ret
  exact ⟨rfl, hB12⟩
end Go.Proofs.Ytiockkphciadeaa
