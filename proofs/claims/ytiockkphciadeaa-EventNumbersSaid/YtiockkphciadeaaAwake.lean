/-
  laid, folds, errorAt, awake: the chapter's examples come out as written.
-/
import Derived.Test.YtiockkphciadeaaSeal
import Derived.Deep.RegionHeld3
set_option linter.unusedSimpArgs false
namespace Go.Proofs.Ytiockkphciadeaa
open Go.RowKit
open Go.Lib (byteCells byteCells_length byteCells_append uvarint uvarint_small uvarint_big)

theorem str_of (w : World) {A : Option Addr} {n c : Nat} {l : List UInt8} (h : IsB w A n c l) :
    (convert 26 9 (.slice A n c)).run Try.prog w = .ok (.string ⟨l.toArray⟩) w :=
  run_str w 26 9 5 Try.underlying26 Try.underlying5 Try.underlying9 A n c l h

/-- what is known of the world may be more from here on -/
theorem wpAnyH_mono {P : Program} {md : Region.Mode} {ops : Array Oper} {Q : Exit → Act → World → Prop} {S S' : World → Prop} (h : ∀ w, S' w → S w) :
    ∀ (fuel : Nat) (listed : Array Bool) (a : Act) (w : World), wpAnyH P md ops Q S' fuel listed a w → wpAnyH P md ops Q S fuel listed a w
  | 0, _, _, _, hw => hw
  | fuel + 1, _, _, _, hw => ⟨hw.1, fun i hi => wpOp_mono (fun a' w' h' => ⟨h w' h'.1, wpAnyH_mono h fuel _ a' w' h'.2⟩) (hw.2 i hi)⟩
theorem own_slice {w : World} {base : Nat} {e : TypeId} {v : Value} {l : List UInt8} (h : Own w base e v l) : ∃ A m c, v = .slice A m c ∧ IsB w A m c l := by
  obtain ⟨A, c, hv, hi, _⟩ := own_is h
  exact ⟨A, _, c, hv, hi⟩
theorem IsB.drew {w : World} {A : Option Addr} {n c : Nat} {l : List UInt8} (h : IsB w A n c l) : IsB w.drew A n c l := h.drewN 1
/-- Uint behind nothing -/
theorem uint_nil (x : Nat) (w : World) (hx : x < 18446744073709551616) :
    Calls Try.prog 78 #[.slice none 0 0, .int .u64 (x : Int)] w fun e w' =>
      ∃ A m c, e = .returned (.slice A m c) ∧ IsB w' A m c (uvarint x) ∧ (convert 26 9 (.slice A m c)).run Try.prog w' = .ok (.string ⟨(uvarint x).toArray⟩) w' ∧ Below w.heap.size w w' :=
  (uint_any none 0 0 x [] w (IsB.nil w) (by decide) hx).mono fun e w' h => by
    obtain ⟨v, he, ho, hb⟩ := h
    obtain ⟨A, m, c, rfl, hi⟩ := own_slice ho
    exact ⟨A, m, c, he, hi, str_of w' hi, hb⟩

/-- Int behind nothing -/
theorem int_nil (x : Int) (w : World) (h0 : -9223372036854775808 ≤ x) (h1 : x ≤ 9223372036854775807) :
    Calls Try.prog 105 #[.slice none 0 0, .int .i64 x] w fun e w' =>
      ∃ A m c, e = .returned (.slice A m c) ∧ IsB w' A m c (uvarint (Lib.zigzag x)) ∧ (convert 26 9 (.slice A m c)).run Try.prog w' = .ok (.string ⟨(uvarint (Lib.zigzag x)).toArray⟩) w' ∧ Below w.heap.size w w' :=
  (int_any none 0 0 x [] w (IsB.nil w) (by decide) h0 h1).mono fun e w' h => by
    obtain ⟨v, he, ho, hb⟩ := h
    obtain ⟨A, m, c, rfl, hi⟩ := own_slice ho
    exact ⟨A, m, c, he, hi, str_of w' hi, hb⟩
/-- what Uint, Int laid is read back -/
theorem getUint_back (A : Option Addr) (m c x : Nat) (w : World) (hx : x < 18446744073709551616) (h : IsB w A m c (uvarint x)) :
    Calls Try.prog 79 #[.slice A m c, .int .i64 0] w fun e w' => e = .returned (.tuple #[.int .u64 (x : Int), .int .i64 (m : Int), .int .i64 0]) ∧ w = w' := by
  have hl := h.len
  have := Lib.uvarint_length64 hx
  have hc := getUint_any A m c 0 (uvarint x) w h (by omega) (by omega)
  rw [List.drop_zero, getU_uvarint' hx, hl] at hc
  simpa [ansU, nextU] using hc
theorem getInt_back (A : Option Addr) (m c : Nat) (x : Int) (w : World) (h0 : -9223372036854775808 ≤ x) (h1 : x ≤ 9223372036854775807) (h : IsB w A m c (uvarint (Lib.zigzag x))) :
    Calls Try.prog 74 #[.slice A m c, .int .i64 0] w fun e w' => e = .returned (.tuple #[.int .i64 x, .int .i64 (m : Int), .int .i64 0]) ∧ w = w' := by
  have hz := Lib.zigzag_lt h0 h1
  have hl := h.len
  have := Lib.uvarint_length64 hz
  have hc := getInt_any A m c 0 _ w h (by omega) (by omega)
  rw [List.drop_zero, getU_uvarint' hz, hl] at hc
  simpa [ansI, nextU, unzigzag_zigzag] using hc

/- ## errorAt -/
theorem scan_one : ∀ (f j acc : Nat) (l : List UInt8), (scan f j acc l).2.2 = 0 → 0 < (scan f j acc l).2.1
  | 0, _, _, _, h => by simp [scan] at h
  | f + 1, j, acc, [], h => by simp [scan] at h
  | f + 1, j, acc, x :: r, h => by
    rw [scan] at h ⊢
    split
    · rename_i hm
      rw [if_pos hm] at h
      split
      · exact Nat.succ_pos _
      · rename_i hx
        rw [if_neg hx] at h
        exact scan_one f _ _ r h
    · rename_i hm
      rw [if_neg hm] at h
      simp at h
theorem getU_one (l : List UInt8) (h : (getU l).2.2 = 0) : 0 < (getU l).2.1 := scan_one 10 0 0 l h
end Go.Proofs.Ytiockkphciadeaa
