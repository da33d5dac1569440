/-
  The definition's GetBlob.
-/
import Derived.Test.YtepdgldhaojmpaaRefLay
set_option linter.unusedSimpArgs false
namespace Go.Proofs.Ytepdgldhaojmpaa
open Go.RowKit
open Go.Lib (byteCells byteCells_length byteCells_append uvarint)
set_option linter.unusedVariables false

set_option maxRecDepth 100000 in
set_option maxHeartbeats 1000000 in
theorem refGetBlob_of (A : Option Addr) (n c : Nat) (kk most : Int) (l : List UInt8) (a nx e : Nat) (w : World) (h : IsB w A n c l) (hn : n ≤ 17592186044416) (ha : a < 18446744073709551616) (hm0 : -9223372036854775808 ≤ most) (hm1 : most ≤ 9223372036854775807) (hnx : nx ≤ n)
    (hU : Calls Try.prog 19 #[.slice A n c, .int .i64 kk] w fun e' w' => e' = .returned (.tuple #[.int .u64 (a : Int), .int .i64 (nx : Int), .int .i64 (e : Int)]) ∧ Below w.heap.size w w') :
    Calls Try.prog 22 #[.slice A n c, .int .i64 kk, .int .i64 most] w fun e' w' =>
      (∃ B m d, e' = .returned (.tuple #[.slice B m d, .int .i64 ((if e ≠ 0 then 0 else if most < 0 ∨ most < (a : Int) then 0 else if n - nx < a then 0 else nx + a : Nat) : Int), .int .i64 ((if e ≠ 0 then e else if most < 0 ∨ most < (a : Int) then 3 else if n - nx < a then 11 else 0 : Nat) : Int)]) ∧
        IsB w' B m d (if e ≠ 0 then [] else if most < 0 ∨ most < (a : Int) then [] else if n - nx < a then [] else (l.drop nx).take a)) ∧ Below w.heap.size w w' := by
  have HU := Lib.hid hU
  clear hU
  by_cases he : e = 0
  · subst he
    simp only [ne_eq, not_true_eq_false, if_false]
    by_cases hlong : most < 0 ∨ most < (a : Int)
    · simp only [hlong, if_true]
      by_cases hneg : most < 0
      · clear h hlong
        go_enter Try.func22, Try.ntmps22
        go_wp2_with fail
        refine HU.out.mono ?_
        rintro e' w' ⟨rfl, hb1⟩
        go_wp2_with fail
        go_ret3
        exact ⟨⟨_, _, _, rfl, IsB.nil _⟩, hb1⟩
      · have hl2 : most < (a : Int) := by omega
        clear h hlong
        go_enter Try.func22, Try.ntmps22
        go_wp2_with fail
        refine HU.out.mono ?_
        rintro e' w' ⟨rfl, hb1⟩
        go_wp2_with fail
        go_ret3
        exact ⟨⟨_, _, _, rfl, IsB.nil _⟩, hb1⟩
    · simp only [hlong, if_false]
      have hq1 : 0 ≤ most := by omega
      have hq2 : (a : Int) ≤ most := by omega
      clear hlong
      by_cases hsh : n - nx < a
      · simp only [hsh, if_true]
        have hs2 : (n : Int) - (nx : Int) < (a : Int) := by omega
        clear h hsh
        go_enter Try.func22, Try.ntmps22
        go_wp2_with fail
        refine HU.out.mono ?_
        rintro e' w' ⟨rfl, hb1⟩
        go_wp2_with fail
        go_ret3
        exact ⟨⟨_, _, _, rfl, IsB.nil _⟩, hb1⟩
      · simp only [hsh, if_false]
        have hs2 : (a : Int) ≤ (n : Int) - (nx : Int) := by omega
        have hcut := h.cut (i := nx) (m := a) (by omega)
        have hrun : ∀ w, (Instr.slice 24 (.slice A n c) (some (.int .i64 (nx : Int))) (some (.int .i64 ((nx : Int) + (a : Int)))) none).run Try.prog w = .ok (.slice (if c = nx then A else A.map (·.add nx)) a (c - nx)) w := fun w => by
          have hr := run_cut w A n c nx (nx + a) (by omega) (by have := h.cap; omega)
          rw [show nx + a - nx = a by omega, show (((nx + a : Nat)) : Int) = (nx : Int) + (a : Int) by omega] at hr
          exact hr
        generalize (if c = nx then A else A.map (·.add nx)) = A' at hcut hrun
        generalize c - nx = c' at hcut hrun
        have hpush : (((nx + a : Nat)) : Int) = (nx : Int) + (a : Int) := by omega
        rw [hpush]
        have hsum : (n : Int) - ((n : Int) - (nx : Int)) + (a : Int) = (nx : Int) + (a : Int) := by omega
        have hal := hcut.len
        clear h hsh hpush
        go_enter Try.func22, Try.ntmps22
        go_wp2_with fail
        refine HU.out.mono ?_
        rintro e' w' ⟨rfl, hb1⟩
        replace hcut := hcut.below hb1
        go_wp2_with fail
        refine (after_any none 0 0 [] A' a c' _ _ (IsB.nil _) hcut (by omega) (by omega)).mono ?_
        rintro e w2 ⟨g, q, rfl, hg1, hg2, hM, hb2⟩
        rw [List.nil_append] at hM
        have hJ := hM.is_ (n := 0 + a) (by rw [hal, Nat.zero_add])
        rw [Nat.zero_add] at hJ ⊢
        have hB := bstep0 hb1 hb2
        clear hM
        go_wp2_with fail
        go_ret3
        exact ⟨⟨_, _, _, rfl, hJ⟩, hB⟩
  · have hne : ((e : Int) != 0) = true := by rw [bne_iff_ne]; omega
    simp only [ne_eq, he, not_false_eq_true, if_true]
    clear h he
    go_enter Try.func22, Try.ntmps22
    go_wp2_with fail
    refine HU.out.mono ?_
    rintro e' w' ⟨rfl, hb1⟩
    go_wp2_with fail
    go_ret3
    exact ⟨⟨_, _, _, rfl, IsB.nil _⟩, hb1⟩

theorem refGetBlob_any (A : Option Addr) (n c k : Nat) (most : Int) (l : List UInt8) (w : World) (h : IsB w A n c l) (hn : n ≤ 17592186044416) (hm0 : -9223372036854775808 ≤ most) (hm1 : most ≤ 9223372036854775807) (hk : k ≤ n) :
    Calls Try.prog 22 #[.slice A n c, .int .i64 (k : Int), .int .i64 most] w fun e w' =>
      (∃ B m d, e = .returned (.tuple #[.slice B m d, .int .i64 ((blobOf l k most).2.1 : Int), .int .i64 ((blobOf l k most).2.2 : Int)]) ∧ IsB w' B m d (blobOf l k most).1) ∧ Below w.heap.size w w' := by
  have hU := refGetUint_any A n c k l w h (by omega) hk
  have hlt := getU_lt (l.drop k)
  have hle := getU_le (l.drop k)
  rw [List.length_drop, h.len] at hle
  have hnx : nextU k (getU (l.drop k)) ≤ n := by
    unfold nextU
    split
    · rename_i h0
      have := hle h0
      omega
    · omega
  refine (refGetBlob_of A n c k most l (getU (l.drop k)).1 (nextU k (getU (l.drop k))) (getU (l.drop k)).2.2 w h hn hlt hm0 hm1 hnx hU).mono ?_
  rintro e w' ⟨⟨B, m, d, he, ho⟩, hb⟩
  refine ⟨⟨B, m, d, ?_, ?_⟩, hb⟩
  · rw [he]
    unfold blobOf nextU
    rw [h.len]
    by_cases h1 : (getU (l.drop k)).2.2 = 0
    · simp only [h1, ne_eq, not_true_eq_false, if_false, if_true]
      split
      · rfl
      · split <;> rfl
    · simp only [h1, ne_eq, not_false_eq_true, if_true]
  · have e1 : (blobOf l k most).1 = (if (getU (l.drop k)).2.2 ≠ 0 then [] else if most < 0 ∨ most < ((getU (l.drop k)).1 : Int) then [] else if n - nextU k (getU (l.drop k)) < (getU (l.drop k)).1 then [] else (l.drop (nextU k (getU (l.drop k)))).take (getU (l.drop k)).1) := by
      unfold blobOf nextU
      rw [h.len]
      by_cases h1 : (getU (l.drop k)).2.2 = 0
      · simp only [h1, ne_eq, not_true_eq_false, if_false, if_true]
        split
        · rfl
        · split <;> rfl
      · simp only [h1, ne_eq, not_false_eq_true, if_true]
    rw [e1]
    exact ho
theorem refGetBlob_out (A : Option Addr) (n c : Nat) (k most : Int) (l : List UInt8) (w : World) (h : IsB w A n c l) (hn : n ≤ 17592186044416) (hm0 : -9223372036854775808 ≤ most) (hm1 : most ≤ 9223372036854775807) (hk : k < 0 ∨ (n : Int) < k) :
    Calls Try.prog 22 #[.slice A n c, .int .i64 k, .int .i64 most] w fun e w' =>
      (∃ B m d, e = .returned (.tuple #[.slice B m d, .int .i64 0, .int .i64 2]) ∧ IsB w' B m d []) ∧ Below w.heap.size w w' := by
  have hU := refGetUint_out A n c k w hk
  refine (refGetBlob_of A n c k most l 0 0 2 w h hn (by decide) hm0 hm1 (Nat.zero_le _) hU).mono ?_
  rintro e w' ⟨⟨B, m, d, he, ho⟩, hb⟩
  exact ⟨⟨B, m, d, by simpa using he, by simpa using ho⟩, hb⟩
end Go.Proofs.Ytepdgldhaojmpaa
