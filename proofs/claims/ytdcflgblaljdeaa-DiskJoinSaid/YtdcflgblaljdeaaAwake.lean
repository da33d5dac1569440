/-
  laid, folds, errorAt, awake: the chapter's examples come out as written.
-/
import Derived.Test.YtdcflgblaljdeaaSeal
import Derived.Deep.RegionHeld3
set_option linter.unusedSimpArgs false
namespace Go.Proofs.Ytdcflgblaljdeaa
open Go.RowKit
open Go.Lib (byteCells byteCells_length byteCells_append uvarint uvarint_small uvarint_big)

theorem str_of (w : World) {A : Option Addr} {n c : Nat} {l : List UInt8} (h : IsB w A n c l) :
    (convert 26 9 (.slice A n c)).run Try.prog w = .ok (.string ⟨l.toArray⟩) w :=
  run_str w 26 9 5 Try.underlying26 Try.underlying5 Try.underlying9 A n c l h

/-- what is known of the world may be more from here on -/
theorem wpAnyH_mono {P : Program} {md : Region.Mode} {ops : Array Oper} {Q : Exit → Act → World → Prop} {S S' : World → Prop} (h : ∀ w, S' w → S w) :
    ∀ (fuel : Nat) (listed : Array Bool) (a : Act) (w : World), wpAnyH P md ops Q S' fuel listed a w → wpAnyH P md ops Q S fuel listed a w
  | 0, _, _, _, hw => hw
  | fuel + 1, _, _, _, hw => ⟨hw.1, fun i hi => wpOp_mono (fun a' w' h' => ⟨h w' h'.1, wpAnyH_mono h fuel _ a' w' h'.2⟩) (hw.2 i hi)⟩
theorem own_slice {w : World} {base : Nat} {e : TypeId} {v : Value} {l : List UInt8} (h : Own w base e v l) : ∃ A m c, v = .slice A m c ∧ IsB w A m c l := by
  obtain ⟨A, c, hv, hi, _⟩ := own_is h
  exact ⟨A, _, c, hv, hi⟩
theorem IsB.drew {w : World} {A : Option Addr} {n c : Nat} {l : List UInt8} (h : IsB w A n c l) : IsB w.drew A n c l := h.drewN 1
/-- Uint behind nothing -/
theorem uint_nil (x : Nat) (w : World) (hx : x < 18446744073709551616) :
    Calls Try.prog 91 #[.slice none 0 0, .int .u64 (x : Int)] w fun e w' =>
      ∃ A m c, e = .returned (.slice A m c) ∧ IsB w' A m c (uvarint x) ∧ (convert 26 9 (.slice A m c)).run Try.prog w' = .ok (.string ⟨(uvarint x).toArray⟩) w' ∧ Below w.heap.size w w' :=
  (uint_any none 0 0 x [] w (IsB.nil w) (by decide) hx).mono fun e w' h => by
    obtain ⟨v, he, ho, hb⟩ := h
    obtain ⟨A, m, c, rfl, hi⟩ := own_slice ho
    exact ⟨A, m, c, he, hi, str_of w' hi, hb⟩

set_option maxRecDepth 100000 in
theorem laid_any (n : Nat) (A : Option Addr) (m c : Nat) (w : World) (hn : n < 18446744073709551616) (h : IsB w A m c (uvarint n)) :
    Calls Try.prog 81 #[.int .u64 (n : Int), .slice A m c] w fun e w' => e = .returned (.bool true) ∧ Below w.heap.size w w' := by
  have hd : IsB w.drew A m c (uvarint n) := h.drewN 1
  have hcw := str_of w.drew hd
  generalize hgen : (⟨(uvarint n).toArray⟩ : ByteArray) = s at hcw
  have HG := Lib.hid hgen
  clear hgen
  go_enter Try.func81, Try.ntmps81
  go_wp2_with fail
  go_region_with (go_at_call 91; refine (uint_nil n _ hn).mono ?_; rintro e w1 ⟨A1, m1, c1, rfl, h1, hc1, hb⟩; have hc2 := str_of w1 (h.drew.below hb); rw [HG.out] at hc1 hc2)
  all_goals go_wp2
  all_goals go_ret
  all_goals exact ⟨rfl, (Below.refl _ w).drew.trans hb⟩

/-- Int behind nothing -/
theorem int_nil (x : Int) (w : World) (h0 : -9223372036854775808 ≤ x) (h1 : x ≤ 9223372036854775807) :
    Calls Try.prog 92 #[.slice none 0 0, .int .i64 x] w fun e w' =>
      ∃ A m c, e = .returned (.slice A m c) ∧ IsB w' A m c (uvarint (Lib.zigzag x)) ∧ (convert 26 9 (.slice A m c)).run Try.prog w' = .ok (.string ⟨(uvarint (Lib.zigzag x)).toArray⟩) w' ∧ Below w.heap.size w w' :=
  (int_any none 0 0 x [] w (IsB.nil w) (by decide) h0 h1).mono fun e w' h => by
    obtain ⟨v, he, ho, hb⟩ := h
    obtain ⟨A, m, c, rfl, hi⟩ := own_slice ho
    exact ⟨A, m, c, he, hi, str_of w' hi, hb⟩
/-- what Uint, Int laid is read back -/
theorem getUint_back (A : Option Addr) (m c x : Nat) (w : World) (hx : x < 18446744073709551616) (h : IsB w A m c (uvarint x)) :
    Calls Try.prog 88 #[.slice A m c, .int .i64 0] w fun e w' => e = .returned (.tuple #[.int .u64 (x : Int), .int .i64 (m : Int), .int .i64 0]) ∧ w = w' := by
  have hl := h.len
  have := Lib.uvarint_length64 hx
  have hc := getUint_any A m c 0 (uvarint x) w h (by omega) (by omega)
  rw [List.drop_zero, getU_uvarint' hx, hl] at hc
  simpa [ansU, nextU] using hc
theorem getInt_back (A : Option Addr) (m c : Nat) (x : Int) (w : World) (h0 : -9223372036854775808 ≤ x) (h1 : x ≤ 9223372036854775807) (h : IsB w A m c (uvarint (Lib.zigzag x))) :
    Calls Try.prog 89 #[.slice A m c, .int .i64 0] w fun e w' => e = .returned (.tuple #[.int .i64 x, .int .i64 (m : Int), .int .i64 0]) ∧ w = w' := by
  have hz := Lib.zigzag_lt h0 h1
  have hl := h.len
  have := Lib.uvarint_length64 hz
  have hc := getInt_any A m c 0 _ w h (by omega) (by omega)
  rw [List.drop_zero, getU_uvarint' hz, hl] at hc
  simpa [ansI, nextU, unzigzag_zigzag] using hc

set_option maxRecDepth 100000 in
set_option maxHeartbeats 400000 in
theorem folds_any (n : Int) (u : Nat) (w : World) (h0 : -9223372036854775808 ≤ n) (h1 : n ≤ 9223372036854775807) (hu : Lib.zigzag n = u) :
    Calls Try.prog 82 #[.int .i64 n, .int .u64 (u : Int)] w fun e w' => e = .returned (.bool true) ∧ Below w.heap.size w w' := by
  have hz := Lib.zigzag_lt h0 h1
  rw [hu] at hz
  have HU := Lib.hid hu
  clear hu
  go_enter Try.func82, Try.ntmps82
  go_wp2_with fail
  refine (int_nil n w h0 h1).mono ?_
  rintro e w1 ⟨A, m, c, rfl, hi, hcv, hb⟩
  have hg := getInt_back A m c n w1 h0 h1 hi
  rw [HU.out] at hi hcv
  clear hcv
  have HG := Lib.hid hg
  clear hg
  go_wp2_with fail
  refine HG.out.mono ?_
  rintro e w' ⟨rfl, rfl⟩
  generalize hgen : (⟨(uvarint u).toArray⟩ : ByteArray) = s
  have HS := Lib.hid hgen
  clear hgen HG
  have hcw := str_of w1.drew hi.drew
  rw [HS.out] at hcw
  go_wp2_with fail
  refine wp_region_held_drew (S := fun w' => (convert 26 9 (.slice A m c)).run Try.prog w' = .ok (.string s) w') (by kernel_rfl) hcw (fun hHeld => ?_)
  refine wpAnyH_take (i := 0) (v := ?_) rfl (by kernel_rfl) (by kernel_rfl) (by kernel_rfl) (fun _ _ _ h => h) (Or.inl ⟨by rfl, ?_⟩) hHeld ?_
  rotate_left
  · (intro w hSw; (try dsimp only at hSw); go_simp <;> rfl)
  simp only [Act.put, List.getElem_toArray, List.getElem_cons_zero, List.getElem_cons_succ, List.setIfInBounds_toArray, List.set_cons_zero, List.set_cons_succ]
  refine wpAnyH_take (i := 1) (v := ?_) rfl (by kernel_rfl) (by kernel_rfl) (by kernel_rfl) (fun _ _ _ h => h) (Or.inl ⟨by rfl, ?_⟩) hHeld ?_
  rotate_left
  · (intro w hSw; (try dsimp only at hSw); go_simp <;> rfl)
  simp only [Act.put, List.getElem_toArray, List.getElem_cons_zero, List.getElem_cons_succ, List.setIfInBounds_toArray, List.set_cons_zero, List.set_cons_succ]
  refine wpAnyH_take (i := 2) (v := ?_) rfl (by kernel_rfl) (by kernel_rfl) (by kernel_rfl) (fun _ _ _ h => h) (Or.inl ⟨by rfl, ?_⟩) hHeld ?_
  rotate_left
  · (intro w hSw; (try dsimp only at hSw); go_simp <;> rfl)
  simp only [Act.put, List.getElem_toArray, List.getElem_cons_zero, List.getElem_cons_succ, List.setIfInBounds_toArray, List.set_cons_zero, List.set_cons_succ]
  refine wpAnyH_ready (rs := [3]) (by kernel_rfl) (by simp) ?_
  refine AllReadyH.cons rfl (fun K hK => ?_) AllReadyH.nil
  go_simp
  refine (uint_nil u _ hz).mono ?_
  rintro e w2 ⟨A1, m1, c1, rfl, h1, hc1, hb2⟩
  rw [HS.out] at hc1
  dsimp only
  refine hK.out _ _ (by rw [← HS.out]; exact str_of w2 (hi.drew.below hb2)) (fun hHeld => ?_)
  clear hK K
  try simp only [Act.put, List.getElem_toArray, List.getElem_cons_zero, List.getElem_cons_succ, List.setIfInBounds_toArray, List.set_cons_zero, List.set_cons_succ]
  refine wpAnyH_mono (S' := fun w' => (convert 26 9 (.slice A m c)).run Try.prog w' = .ok (.string s) w' ∧ (convert 26 9 (.slice A1 m1 c1)).run Try.prog w' = .ok (.string s) w') (fun _ h => h.1) _ _ _ _ ?_
  replace hHeld := And.intro hHeld hc1
  clear hi hcw hc1 h1
  refine wpAnyH_take (i := 4) (v := ?_) rfl (by kernel_rfl) (by kernel_rfl) (by kernel_rfl) (fun _ _ _ h => h) (Or.inl ⟨by rfl, ?_⟩) hHeld ?_
  rotate_left
  · (intro w hSw; (try dsimp only at hSw); go_simp <;> rfl)
  simp only [Act.put, List.getElem_toArray, List.getElem_cons_zero, List.getElem_cons_succ, List.setIfInBounds_toArray, List.set_cons_zero, List.set_cons_succ]
  refine wpAnyH_take (i := 5) (v := ?_) rfl (by kernel_rfl) (by kernel_rfl) (by kernel_rfl) (fun _ _ _ h => h) (Or.inl ⟨by rfl, ?_⟩) hHeld ?_
  rotate_left
  · (intro w hSw; (try dsimp only at hSw); go_simp <;> rfl)
  simp only [Act.put, List.getElem_toArray, List.getElem_cons_zero, List.getElem_cons_succ, List.setIfInBounds_toArray, List.set_cons_zero, List.set_cons_succ]
  refine wpAnyH_take (i := 6) (v := ?_) rfl (by kernel_rfl) (by kernel_rfl) (by kernel_rfl) (fun _ _ _ h => h) (Or.inl ⟨by rfl, ?_⟩) hHeld ?_
  rotate_left
  · (intro w hSw; (try dsimp only at hSw); go_simp <;> rfl)
  simp only [Act.put, List.getElem_toArray, List.getElem_cons_zero, List.getElem_cons_succ, List.setIfInBounds_toArray, List.set_cons_zero, List.set_cons_succ]
  refine wpAnyH_take (i := 7) (v := ?_) rfl (by kernel_rfl) (by kernel_rfl) (by kernel_rfl) (fun _ _ _ h => h) (Or.inl ⟨by rfl, ?_⟩) hHeld ?_
  rotate_left
  · (intro w hSw; (try dsimp only at hSw); go_simp <;> rfl)
  simp only [Act.put, List.getElem_toArray, List.getElem_cons_zero, List.getElem_cons_succ, List.setIfInBounds_toArray, List.set_cons_zero, List.set_cons_succ]
  refine wpAnyH_take (i := 8) (v := ?_) rfl (by kernel_rfl) (by kernel_rfl) (by kernel_rfl) (fun _ _ _ h => h) (Or.inl ⟨by rfl, ?_⟩) hHeld ?_
  rotate_left
  · (intro w hSw; (try dsimp only at hSw); go_simp <;> rfl)
  simp only [Act.put, List.getElem_toArray, List.getElem_cons_zero, List.getElem_cons_succ, List.setIfInBounds_toArray, List.set_cons_zero, List.set_cons_succ]
  refine wpAnyH_take (i := 9) (v := ?_) rfl (by kernel_rfl) (by kernel_rfl) (by kernel_rfl) (fun _ _ _ h => h) (Or.inl ⟨by rfl, ?_⟩) hHeld ?_
  rotate_left
  · (intro w hSw; (try dsimp only at hSw); go_simp <;> rfl)
  simp only [Act.put, List.getElem_toArray, List.getElem_cons_zero, List.getElem_cons_succ, List.setIfInBounds_toArray, List.set_cons_zero, List.set_cons_succ]
  refine wpAnyH_take (i := 10) (v := ?_) rfl (by kernel_rfl) (by kernel_rfl) (by kernel_rfl) (fun _ _ _ h => h) (Or.inl ⟨by rfl, ?_⟩) hHeld ?_
  rotate_left
  · (intro w hSw; (try dsimp only at hSw); go_simp <;> rfl)
  simp only [Act.put, List.getElem_toArray, List.getElem_cons_zero, List.getElem_cons_succ, List.setIfInBounds_toArray, List.set_cons_zero, List.set_cons_succ]
  refine wpAnyH_take (i := 11) (v := ?_) rfl (by kernel_rfl) (by kernel_rfl) (by kernel_rfl) (fun _ _ _ h => h) (Or.inl ⟨by rfl, ?_⟩) hHeld ?_
  rotate_left
  · (intro w hSw; (try dsimp only at hSw); go_simp <;> rfl)
  simp only [Act.put, List.getElem_toArray, List.getElem_cons_zero, List.getElem_cons_succ, List.setIfInBounds_toArray, List.set_cons_zero, List.set_cons_succ]
  refine wpAnyH_take (i := 12) (v := ?_) rfl (by kernel_rfl) (by kernel_rfl) (by kernel_rfl) (fun _ _ _ h => h) (Or.inl ⟨by rfl, ?_⟩) hHeld ?_
  rotate_left
  · (intro w hSw; (try dsimp only at hSw); go_simp <;> rfl)
  simp only [Act.put, List.getElem_toArray, List.getElem_cons_zero, List.getElem_cons_succ, List.setIfInBounds_toArray, List.set_cons_zero, List.set_cons_succ]
  refine wpAnyH_take (i := 13) (v := ?_) rfl (by kernel_rfl) (by kernel_rfl) (by kernel_rfl) (fun _ _ _ h => h) (Or.inl ⟨by rfl, ?_⟩) hHeld ?_
  rotate_left
  · (intro w hSw; (try dsimp only at hSw); go_simp <;> rfl)
  simp only [Act.put, List.getElem_toArray, List.getElem_cons_zero, List.getElem_cons_succ, List.setIfInBounds_toArray, List.set_cons_zero, List.set_cons_succ]
  refine wpAnyH_take (i := 14) (v := ?_) rfl (by kernel_rfl) (by kernel_rfl) (by kernel_rfl) (fun _ _ _ h => h) (Or.inl ⟨by rfl, ?_⟩) hHeld ?_
  rotate_left
  · (intro w hSw; (try dsimp only at hSw); go_simp <;> rfl)
  simp only [Act.put, List.getElem_toArray, List.getElem_cons_zero, List.getElem_cons_succ, List.setIfInBounds_toArray, List.set_cons_zero, List.set_cons_succ]
  refine wpAnyH_take (i := 15) (v := ?_) rfl (by kernel_rfl) (by kernel_rfl) (by kernel_rfl) (fun _ _ _ h => h) (Or.inl ⟨by rfl, ?_⟩) hHeld ?_
  rotate_left
  · (intro w hSw; (try dsimp only at hSw); go_simp <;> rfl)
  simp only [Act.put, List.getElem_toArray, List.getElem_cons_zero, List.getElem_cons_succ, List.setIfInBounds_toArray, List.set_cons_zero, List.set_cons_succ]
  refine wpAnyH_take (i := 16) (v := ?_) rfl (by kernel_rfl) (by kernel_rfl) (by kernel_rfl) (fun _ _ _ h => h) (Or.inl ⟨by rfl, ?_⟩) hHeld ?_
  rotate_left
  · (intro w hSw; (try dsimp only at hSw); go_simp <;> rfl)
  simp only [Act.put, List.getElem_toArray, List.getElem_cons_zero, List.getElem_cons_succ, List.setIfInBounds_toArray, List.set_cons_zero, List.set_cons_succ]
  refine wpAnyH_take (i := 17) (v := ?_) rfl (by kernel_rfl) (by kernel_rfl) (by kernel_rfl) (fun _ _ _ h => h) (Or.inl ⟨by rfl, ?_⟩) hHeld ?_
  rotate_left
  · (intro w hSw; (try dsimp only at hSw); go_simp <;> rfl)
  simp only [Act.put, List.getElem_toArray, List.getElem_cons_zero, List.getElem_cons_succ, List.setIfInBounds_toArray, List.set_cons_zero, List.set_cons_succ]
  refine wpAnyH_take (i := 18) (v := ?_) rfl (by kernel_rfl) (by kernel_rfl) (by kernel_rfl) (fun _ _ _ h => h) (Or.inl ⟨by rfl, ?_⟩) hHeld ?_
  rotate_left
  · (intro w hSw; (try dsimp only at hSw); go_simp <;> rfl)
  simp only [Act.put, List.getElem_toArray, List.getElem_cons_zero, List.getElem_cons_succ, List.setIfInBounds_toArray, List.set_cons_zero, List.set_cons_succ]
  refine wpAnyH_take (i := 19) (v := ?_) rfl (by kernel_rfl) (by kernel_rfl) (by kernel_rfl) (fun _ _ _ h => h) (Or.inl ⟨by rfl, ?_⟩) hHeld ?_
  rotate_left
  · (intro w hSw; (try dsimp only at hSw); go_simp <;> rfl)
  simp only [Act.put, List.getElem_toArray, List.getElem_cons_zero, List.getElem_cons_succ, List.setIfInBounds_toArray, List.set_cons_zero, List.set_cons_succ]
  refine wpAnyH_take (i := 20) (v := ?_) rfl (by kernel_rfl) (by kernel_rfl) (by kernel_rfl) (fun _ _ _ h => h) (Or.inl ⟨by rfl, ?_⟩) hHeld ?_
  rotate_left
  · (intro w hSw; (try dsimp only at hSw); go_simp <;> rfl)
  simp only [Act.put, List.getElem_toArray, List.getElem_cons_zero, List.getElem_cons_succ, List.setIfInBounds_toArray, List.set_cons_zero, List.set_cons_succ]
  refine wpAnyH_take (i := 21) (v := ?_) rfl (by kernel_rfl) (by kernel_rfl) (by kernel_rfl) (fun _ _ _ h => h) (Or.inl ⟨by rfl, ?_⟩) hHeld ?_
  rotate_left
  · (intro w hSw; (try dsimp only at hSw); go_simp <;> rfl)
  simp only [Act.put, List.getElem_toArray, List.getElem_cons_zero, List.getElem_cons_succ, List.setIfInBounds_toArray, List.set_cons_zero, List.set_cons_succ]
  refine wpAnyH_done (by kernel_rfl) ?_ _
  go_wp2
  go_ret
  exact ⟨rfl, hb.drew.trans (hb2.mono hb.size)⟩

/- ## errorAt -/
theorem scan_one : ∀ (f j acc : Nat) (l : List UInt8), (scan f j acc l).2.2 = 0 → 0 < (scan f j acc l).2.1
  | 0, _, _, _, h => by simp [scan] at h
  | f + 1, j, acc, [], h => by simp [scan] at h
  | f + 1, j, acc, x :: r, h => by
    rw [scan] at h ⊢
    split
    · rename_i hm
      rw [if_pos hm] at h
      split
      · exact Nat.succ_pos _
      · rename_i hx
        rw [if_neg hx] at h
        exact scan_one f _ _ r h
    · rename_i hm
      rw [if_neg hm] at h
      simp at h
theorem getU_one (l : List UInt8) (h : (getU l).2.2 = 0) : 0 < (getU l).2.1 := scan_one 10 0 0 l h
theorem errorAt_from {A : Option Addr} {m c : Nat} {k q : Int} {w : World}
    (hU : Calls Try.prog 88 #[.slice A m c, .int .i64 k] w fun e w' => e = .returned (.tuple #[.int .u64 0, .int .i64 0, .int .i64 q]) ∧ w = w')
    (hI : Calls Try.prog 89 #[.slice A m c, .int .i64 k] w fun e w' => e = .returned (.tuple #[.int .i64 0, .int .i64 0, .int .i64 q]) ∧ w = w') :
    Calls Try.prog 84 #[.slice A m c, .int .i64 k] w fun e w' => e = .returned (.int .i64 q) ∧ w = w' := by
  have HU := Lib.hid hU
  have HI := Lib.hid hI
  clear hU hI
  go_enter Try.func84, Try.ntmps84
  go_wp2_with (first
    | (go_at_call 88; refine HU.out.mono ?_; rintro e w' ⟨rfl, rfl⟩)
    | (go_at_call 89; refine HI.out.mono ?_; rintro e w' ⟨rfl, rfl⟩))
  go_ret
  exact ⟨rfl, rfl⟩
theorem errorAt_in (A : Option Addr) (m c k q : Nat) (l : List UInt8) (w : World) (h : IsB w A m c l) (hn : m ≤ 35184372088832) (hk : k ≤ m) (hq : getU (l.drop k) = (0, 0, q)) :
    Calls Try.prog 84 #[.slice A m c, .int .i64 (k : Int)] w fun e w' => e = .returned (.int .i64 (q : Int)) ∧ w = w' := by
  have hU := getUint_any A m c k l w h hn hk
  have hI := getInt_any A m c k l w h hn hk
  rw [hq] at hU hI
  have hx : nextU k (0, 0, q) = if q = 0 then k else 0 := rfl
  by_cases h0 : q = 0
  · have hp := getU_one (l.drop k) (by rw [hq]; exact h0)
    rw [hq] at hp
    simp at hp
  · rw [if_neg h0] at hx
    refine errorAt_from ?_ ?_
    · simpa [ansU, hx] using hU
    · simpa [ansI, hx, Lib.unzigzag] using hI
theorem errorAt_out (A : Option Addr) (m c : Nat) (k : Int) (w : World) (hk : k < 0 ∨ (m : Int) < k) :
    Calls Try.prog 84 #[.slice A m c, .int .i64 k] w fun e w' => e = .returned (.int .i64 2) ∧ w = w' :=
  errorAt_from (by simpa [ansU, nextU] using getUint_out A m c k w hk) (by simpa [ansI, nextU, Lib.unzigzag] using getInt_out A m c k w hk)
end Go.Proofs.Ytdcflgblaljdeaa
