/-
  GetBlob: the string at a place, of at most so many bytes.
-/
import Derived.Test.YtdcflgblaljdeaaUnseal
set_option linter.unusedSimpArgs false
namespace Go.Proofs.Ytdcflgblaljdeaa
open Go.RowKit
open Go.Lib (byteCells byteCells_length byteCells_append uvarint)

theorem scan_le : ∀ (f j acc : Nat) (l : List UInt8), (scan f j acc l).2.2 = 0 → (scan f j acc l).2.1 ≤ j + l.length
  | 0, _, _, _, h => by simp [scan] at h
  | f + 1, j, acc, [], h => by simp [scan] at h
  | f + 1, j, acc, x :: r, h => by
    rw [scan] at h ⊢
    split
    · rename_i hm
      rw [if_pos hm] at h
      split
      · simp
      · rename_i hx
        rw [if_neg hx] at h
        have := scan_le f (j + 1) _ r h
        simp only [List.length_cons]
        omega
    · rename_i hm
      rw [if_neg hm] at h
      simp at h
theorem getU_le (l : List UInt8) (h : (getU l).2.2 = 0) : (getU l).2.1 ≤ l.length := by
  have := scan_le 10 0 0 l h
  rw [Nat.zero_add] at this
  exact this
theorem getU_err (l : List UInt8) : (getU l).2.2 = 0 ∨ ((getU l).1 = 0 ∧ (getU l).2.1 = 0) := scan_bits 10 0 0 l

/-- the string at a place: its bytes, the place behind it, the error -/
def blobOf (l : List UInt8) (k : Nat) (most : Int) : List UInt8 × Nat × Nat :=
  if (getU (l.drop k)).2.2 ≠ 0 then ([], 0, (getU (l.drop k)).2.2)
  else if most < 0 ∨ most < ((getU (l.drop k)).1 : Int) then ([], 0, 3)
  else if l.length - (k + (getU (l.drop k)).2.1) < (getU (l.drop k)).1 then ([], 0, 11)
  else ((l.drop (k + (getU (l.drop k)).2.1)).take (getU (l.drop k)).1, k + (getU (l.drop k)).2.1 + (getU (l.drop k)).1, 0)

/-- a piece of a slice of bytes -/
theorem IsB.cut {w : World} {A : Option Addr} {n c : Nat} {l : List UInt8} (h : IsB w A n c l) {i m : Nat} (hi : i + m ≤ n) :
    IsB w (if c = i then A else A.map (·.add i)) m (c - i) ((l.drop i).take m) := by
  obtain ⟨hl, hc, hnone, hsrc⟩ := h
  refine ⟨by rw [List.length_take, List.length_drop]; omega, by omega, fun e => ?_, ?_⟩
  · by_cases hci : c = i
    · omega
    · rw [if_neg hci] at e
      cases A with
      | none => have := hnone rfl; omega
      | some a => simp at e
  · rcases Nat.eq_zero_or_pos m with h0 | h0
    · subst h0; exact .inl (by simp)
    · rw [if_neg (by omega)]
      rcases hsrc with rfl | ⟨b, o, rfl, hcell⟩
      · simp at hl; omega
      · refine .inr ⟨b, o + i, by simp [Addr.add_lit], fun j u hj => ?_⟩
        have hj' : l[i + j]? = some u := by
          have hjm : j < m := by
            have h1 := (List.getElem?_eq_some_iff.1 hj).1
            rw [List.length_take] at h1
            omega
          rw [List.getElem?_take_of_lt hjm, List.getElem?_drop] at hj
          exact hj
        rw [Nat.add_assoc]
        exact hcell (i + j) u hj'
theorem run_cut (w : World) (A : Option Addr) (n c i j : Nat) (hij : i ≤ j) (hj : j ≤ c) :
    (Instr.slice 26 (.slice A n c) (some (.int .i64 (i : Int))) (some (.int .i64 (j : Int))) none).run Try.prog w = .ok (.slice (if c = i then A else A.map (·.add i)) (j - i) (c - i)) w := by
  obtain ⟨i0, hi, hz0, hz1, hz2⟩ := info_parts infoByte
  have ht : Try.prog.underlying 26 = some (.slice (Try.prog.elem 26)) := by simp [Program.elem, Try.underlying26]
  have he : Try.prog.elem 26 = 5 := by simp [Program.elem, Try.underlying26]
  rw [run_slice_lh w 26 A n c ht .i64 .i64 (i : Int) (j : Int) (by omega) (by omega) (by omega), he]
  simp [sizeOf, typeInfo, hi, hz1, Result.andThen, sliced]

set_option maxRecDepth 100000 in
set_option maxHeartbeats 1000000 in
theorem getBlob_of (A : Option Addr) (n c : Nat) (kk most : Int) (l : List UInt8) (a nx e : Nat) (w : World) (h : IsB w A n c l) (hn : n ≤ 17592186044416) (ha : a < 18446744073709551616) (hm0 : -9223372036854775808 ≤ most) (hm1 : most ≤ 9223372036854775807) (hnx : nx ≤ n)
    (hU : Calls Try.prog 88 #[.slice A n c, .int .i64 kk] w fun e' w' => e' = .returned (.tuple #[.int .u64 (a : Int), .int .i64 (nx : Int), .int .i64 (e : Int)]) ∧ w = w') :
    Calls Try.prog 90 #[.slice A n c, .int .i64 kk, .int .i64 most] w fun e' w' =>
      (∃ v, e' = .returned (.tuple #[v, .int .i64 ((if e ≠ 0 then 0 else if most < 0 ∨ most < (a : Int) then 0 else if n - nx < a then 0 else nx + a : Nat) : Int), .int .i64 ((if e ≠ 0 then e else if most < 0 ∨ most < (a : Int) then 3 else if n - nx < a then 11 else 0 : Nat) : Int)]) ∧
        Own w' w.heap.size 5 v (if e ≠ 0 then [] else if most < 0 ∨ most < (a : Int) then [] else if n - nx < a then [] else (l.drop nx).take a)) ∧ Below w.heap.size w w' := by
  have HU := Lib.hid hU
  clear hU
  by_cases he : e = 0
  · subst he
    simp only [ne_eq, not_true_eq_false, if_false]
    by_cases hlong : most < 0 ∨ most < (a : Int)
    · simp only [hlong, if_true]
      by_cases hneg : most < 0
      · clear h hlong
        go_enter Try.func90, Try.ntmps90
        go_wp2_with fail
        refine HU.out.mono ?_
        rintro e' w' ⟨rfl, rfl⟩
        go_wp2_with fail
        go_ret3
        exact ⟨⟨_, rfl, Own.nil _ _ _⟩, Below.refl _ _⟩
      · have hl2 : most < (a : Int) := by omega
        clear h hlong
        go_enter Try.func90, Try.ntmps90
        go_wp2_with fail
        refine HU.out.mono ?_
        rintro e' w' ⟨rfl, rfl⟩
        go_wp2_with fail
        go_ret3
        exact ⟨⟨_, rfl, Own.nil _ _ _⟩, Below.refl _ _⟩
    · simp only [hlong, if_false]
      have hq1 : 0 ≤ most := by omega
      have hq2 : (a : Int) ≤ most := by omega
      clear hlong
      by_cases hsh : n - nx < a
      · simp only [hsh, if_true]
        have hs2 : (n : Int) - (nx : Int) < (a : Int) := by omega
        clear h hsh
        go_enter Try.func90, Try.ntmps90
        go_wp2_with fail
        refine HU.out.mono ?_
        rintro e' w' ⟨rfl, rfl⟩
        go_wp2_with fail
        go_ret3
        exact ⟨⟨_, rfl, Own.nil _ _ _⟩, Below.refl _ _⟩
      · simp only [hsh, if_false]
        have hs2 : (a : Int) ≤ (n : Int) - (nx : Int) := by omega
        obtain ⟨i0, hi, hz0, hz1, hz2⟩ := info_parts infoByte
        have hcut := h.cut (i := nx) (m := a) (by omega)
        have hrun := run_cut w A n c nx (nx + a) (by omega) (by have := h.cap; omega)
        rw [show nx + a - nx = a by omega] at hrun
        generalize (if c = nx then A else A.map (·.add nx)) = A' at hcut hrun
        generalize c - nx = c' at hcut hrun
        have hpush : (((nx + a : Nat)) : Int) = (nx : Int) + (a : Int) := by omega
        rw [hpush] at hrun ⊢
        clear h hsh hpush
        go_enter Try.func90, Try.ntmps90
        go_wp2_with fail
        refine HU.out.mono ?_
        rintro e' w' ⟨rfl, rfl⟩
        go_wp2_with (at_builtin; refine wpList_putAny _ rfl _ _ 26 rfl 5 i0 Try.underlying26 hi hz0 hz1 hz2 w.heap.size _ [] rfl (Own.nil _ _ _) A' a c' ((l.drop nx).take a) rfl hcut (by simp; omega) (Nat.le_refl _) ?_; rintro v4 w4 ho4 hb4; rw [List.nil_append] at ho4)
        go_ret3
        exact ⟨⟨_, rfl, ho4⟩, hb4⟩
  · have hne : ((e : Int) != 0) = true := by rw [bne_iff_ne]; omega
    simp only [ne_eq, he, not_false_eq_true, if_true]
    clear h he
    go_enter Try.func90, Try.ntmps90
    go_wp2_with fail
    refine HU.out.mono ?_
    rintro e' w' ⟨rfl, rfl⟩
    go_wp2_with fail
    go_ret3
    exact ⟨⟨_, rfl, Own.nil _ _ _⟩, Below.refl _ _⟩

theorem getBlob_any (A : Option Addr) (n c k : Nat) (most : Int) (l : List UInt8) (w : World) (h : IsB w A n c l) (hn : n ≤ 17592186044416) (hm0 : -9223372036854775808 ≤ most) (hm1 : most ≤ 9223372036854775807) (hk : k ≤ n) :
    Calls Try.prog 90 #[.slice A n c, .int .i64 (k : Int), .int .i64 most] w fun e w' =>
      (∃ v, e = .returned (.tuple #[v, .int .i64 ((blobOf l k most).2.1 : Int), .int .i64 ((blobOf l k most).2.2 : Int)]) ∧ Own w' w.heap.size 5 v (blobOf l k most).1) ∧ Below w.heap.size w w' := by
  have hU := getUint_any A n c k l w h (by omega) hk
  have hlt := getU_lt (l.drop k)
  have hle := getU_le (l.drop k)
  rw [List.length_drop, h.len] at hle
  have hnx : nextU k (getU (l.drop k)) ≤ n := by
    unfold nextU
    split
    · rename_i h0
      have := hle h0
      omega
    · omega
  refine (getBlob_of A n c k most l (getU (l.drop k)).1 (nextU k (getU (l.drop k))) (getU (l.drop k)).2.2 w h hn hlt hm0 hm1 hnx hU).mono ?_
  rintro e w' ⟨⟨v, he, ho⟩, hb⟩
  refine ⟨⟨v, ?_, ?_⟩, hb⟩
  · rw [he]
    unfold blobOf nextU
    rw [h.len]
    by_cases h1 : (getU (l.drop k)).2.2 = 0
    · simp only [h1, ne_eq, not_true_eq_false, if_false, if_true]
      split
      · rfl
      · split <;> rfl
    · simp only [h1, ne_eq, not_false_eq_true, if_true]
  · have e1 : (blobOf l k most).1 = (if (getU (l.drop k)).2.2 ≠ 0 then [] else if most < 0 ∨ most < ((getU (l.drop k)).1 : Int) then [] else if n - nextU k (getU (l.drop k)) < (getU (l.drop k)).1 then [] else (l.drop (nextU k (getU (l.drop k)))).take (getU (l.drop k)).1) := by
      unfold blobOf nextU
      rw [h.len]
      by_cases h1 : (getU (l.drop k)).2.2 = 0
      · simp only [h1, ne_eq, not_true_eq_false, if_false, if_true]
        split
        · rfl
        · split <;> rfl
      · simp only [h1, ne_eq, not_false_eq_true, if_true]
    rw [e1]
    exact ho
theorem getBlob_out (A : Option Addr) (n c : Nat) (k most : Int) (l : List UInt8) (w : World) (h : IsB w A n c l) (hn : n ≤ 17592186044416) (hm0 : -9223372036854775808 ≤ most) (hm1 : most ≤ 9223372036854775807) (hk : k < 0 ∨ (n : Int) < k) :
    Calls Try.prog 90 #[.slice A n c, .int .i64 k, .int .i64 most] w fun e w' =>
      (∃ v, e = .returned (.tuple #[v, .int .i64 0, .int .i64 2]) ∧ Own w' w.heap.size 5 v []) ∧ Below w.heap.size w w' := by
  have hU := getUint_out A n c k w hk
  refine (getBlob_of A n c k most l 0 0 2 w h hn (by decide) hm0 hm1 (Nat.zero_le _) (by simpa [ansU, nextU] using hU)).mono ?_
  rintro e w' ⟨⟨v, he, ho⟩, hb⟩
  exact ⟨⟨v, by simpa using he, by simpa using ho⟩, hb⟩
end Go.Proofs.Ytdcflgblaljdeaa
