/-
  The chapter's examples: what they are made of.
-/
import Derived.Test.YtiockkphciadeaaKSgBack
import Derived.Test.YtiockkphciadeaaKRefFrame
set_option linter.unusedVariables false
set_option linter.unusedSimpArgs false
namespace Go.Proofs.Ytiockkphciadeaa
open Go.RowKit
open Go.Lib (byteCells byteCells_length byteCells_append uvarint)

theorem begin0 (mk : List UInt8) : beginOf mk 0 = mk ++ [0] := by unfold beginOf; rw [uv0]
theorem head0 : headOf 0 = sealed [65, 77, 83, 49, 0] := by unfold headOf; rw [begin0]; rfl
theorem head0_len : (headOf 0).length = 9 := by rw [head0]; rfl
theorem nums00 : numsBytes [0, 0] = [0, 2] := by
  have h : runsOf (diffs 0 [0, 0]) = [(0, 2)] := by
    show consRun (dif 0 0) (consRun (dif 0 0) []) = _
    rw [dif_self]
    rfl
  unfold numsBytes
  rw [h]
  show (svar 0 ++ uvarint 2) ++ [] = _
  rw [svar_zero, uv2]
  rfl
def dense0 : List UInt8 := [65, 77, 68, 49, 0, 2, 0, 2, 0, 2, 0, 2, 0, 2, 0, 2]
theorem dense0_of : denseOf 0 [Ev.zero, Ev.zero] = dense0 := by
  unfold denseOf
  rw [begin0]
  show denseMark ++ [0] ++ (uvarint 2 ++ (((((([] : List UInt8) ++ numsBytes [0, 0]) ++ numsBytes [0, 0]) ++ numsBytes [0, 0]) ++ numsBytes [0, 0]) ++ numsBytes [0, 0])) = _
  rw [nums00, uv2]
  rfl
theorem scan_head0 : scanOf (headOf 0) = (0, [], 9, 0) := by
  have h := scanOf_seg (l := headOf 0) (r := []) (first := 0) (fs := []) (by decide) (fun f hf => by cases hf) (by simp [framesOf]) (rd_end (by show (headOf 0).length ≤ (headOf 0).length + 0; omega))
  rw [h, head0_len]
  rfl
theorem scan_head_cut : scanOf (headOf 0 ++ frame0.take 10) = (0, [], 9, 0) := by
  have hf : frame0 = frameOf [Ev.zero] := frame0_of.symm
  have hl : frame0.length = 11 := by rw [frame0_is]; rfl
  have hcut := row_cut (all := headOf 0 ++ frame0) (a := 9) (k := 19) (f := [Ev.zero]) (post := []) (by rw [← head0_len, List.drop_left, List.append_nil, hf]) evs0 (by rw [List.length_append, head0_len, hl]; decide) (by decide)
  have ht : (headOf 0 ++ frame0).take 19 = headOf 0 ++ frame0.take 10 := by
    rw [List.take_append, List.take_of_length_le (by rw [head0_len]; decide), head0_len]
  rw [ht, ← hf, hl] at hcut
  have hno : (rdFrame (headOf 0 ++ frame0.take 10) 9).2.2 ≠ 0 := fun h => by
    have := hcut.1 h
    omega
  have h := scanOf_seg (l := headOf 0 ++ frame0.take 10) (r := frame0.take 10) (first := 0) (fs := []) (by decide) (fun f hf => by cases hf) (by simp [framesOf]) (by
    show (rdFrame _ ((headOf 0).length + 0)).2.2 ≠ 0
    rw [head0_len]
    exact hno)
  rw [h, head0_len]
  rfl
theorem same_true {w : World} {A : Option Addr} {n c : Nat} {l : List UInt8} {B : Option Addr} {m d : Nat} (h1 : IsB w A n c l) (h2 : IsB w B m d l) :
    Calls Try.prog 27 #[.slice A n c, .slice B m d] w fun e w' => e = .returned (.bool true) ∧ w = w' := by
  have := samebytes_any h1 h2
  rwa [decide_eq_true rfl] at this
set_option maxRecDepth 100000 in
set_option maxHeartbeats 1000000 in
theorem is4_true {w : World} {A : Option Addr} {n c : Nat} {l : List UInt8} {B : Option Addr} {m d : Nat} (h1 : IsB w A n c (sealed l)) (h2 : IsB w B m d l) (hm : m ≤ 1000000) :
    Calls Try.prog 92 #[.slice A n c, .int .i64 0, .slice B m d] w fun e w' => e = .returned (.bool true) ∧ Below w.heap.size w w' := by
  have HS := Lib.hid (refSeal_any B m d l w h2 (by omega))
  have H1 := Lib.hid h1
  clear h1 h2
  go_enter Try.func92, Try.ntmps92
  go_wp2_with fail
  refine HS.out.mono ?_
  rintro e w1 ⟨B1, m1, d1, rfl, hI1, hb1⟩
  have HB := Lib.hid (same_true (H1.out.below hb1) hI1)
  have HB1 := Lib.hid hb1
  clear hI1 hb1 HS
  go_wp2_with fail
  refine HB.out.mono ?_
  rintro e w2 ⟨rfl, rfl⟩
  go_wp2_with fail
  go_ret
  exact ⟨rfl, HB1.out⟩
set_option maxRecDepth 100000 in
set_option maxHeartbeats 1000000 in
theorem scanned_any {w : World} {A : Option Addr} {n c : Nat} {l : List UInt8} {f k m : Nat} {es : List Ev} (h : IsB w A n c l) (hn : n ≤ 1000000) (hs : scanOf l = (f, es, k, 0)) (hm : es.length = m) :
    Calls Try.prog 37 #[.slice A n c, .int .i64 (f : Int), .int .i64 (m : Int), .int .i64 (k : Int)] w fun e w' => e = .returned (.bool true) ∧ Below w.heap.size w w' := by
  have HS := Lib.hid (Scan_any A n c l w h hn)
  have q1 : ((f : Int) == (f : Int)) = true := by simp
  have q2 : ((m : Int) == (m : Int)) = true := by simp
  have q3 : ((k : Int) == (k : Int)) = true := by simp
  clear h
  rw [hs] at HS
  go_enter Try.func37, Try.ntmps37
  go_wp2_with fail
  refine HS.out.mono ?_
  rintro e w1 ⟨⟨v, rfl, hO⟩, hb1⟩
  obtain ⟨B, b, d, rfl, hI, hbl, -⟩ := hO.is_
  have hbm : b = m := by rw [hbl]; exact hm
  subst hbm
  have HB1 := Lib.hid hb1
  clear hO hI hbl hb1 HS hm hs
  go_wp2_with fail
  go_ret
  exact ⟨rfl, HB1.out⟩
theorem two_zero (w : World) (t : TypeId) (ht : t = 54) : IsEv (w.alloc (.cells #[.int .i64 0, .int .u8 0, .int .i64 0, .int .i64 0, .int .i64 0, .int .i64 0, .int .u8 0, .int .i64 0, .int .i64 0, .int .i64 0] t)) (some ⟨w.heap.size, 0, none⟩) 2 2 [Ev.zero, Ev.zero] := by
  have hg := heap_alloc_new w (.cells #[.int .i64 0, .int .u8 0, .int .i64 0, .int .i64 0, .int .i64 0, .int .i64 0, .int .u8 0, .int .i64 0, .int .i64 0, .int .i64 0] t)
  refine ⟨rfl, Nat.le_refl _, (fun e => by cases e), .inr ⟨_, 0, rfl, fun j x hj f u hu => ?_⟩⟩
  have hj2 : j < 2 := (List.getElem?_eq_some_iff.1 hj).1
  have hf5 : f < 5 := (List.getElem?_eq_some_iff.1 hu).1
  have hx : x = Ev.zero := by
    rcases (show j = 0 ∨ j = 1 by omega) with h | h <;> subst h <;> exact (Option.some.inj hj).symm
  subst hx
  rw [cell_of_row _ _ _ _ _ _ hg, ← hu]
  rcases (show j = 0 ∨ j = 1 by omega) with h | h <;> subst h <;> rcases (show f = 0 ∨ f = 1 ∨ f = 2 ∨ f = 3 ∨ f = 4 by omega) with h | h | h | h | h <;> subst h <;> rfl
end Go.Proofs.Ytiockkphciadeaa
