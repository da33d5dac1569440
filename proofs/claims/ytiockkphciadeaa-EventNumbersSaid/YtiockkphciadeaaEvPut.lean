/-
  Put: an event's bytes, put behind others.
-/
import Derived.Test.YtiockkphciadeaaEvMem
set_option linter.unusedVariables false
set_option linter.unusedSimpArgs false
namespace Go.Proofs.Ytiockkphciadeaa
open Go.RowKit
open Go.Lib (byteCells byteCells_length byteCells_append uvarint)

set_option maxRecDepth 100000 in
set_option maxHeartbeats 1000000 in
theorem cl_put {w : World} {ob : Nat} {r : Raw} (h : w.heap[ob]? = some (.cells #[r.sl] 26 (0, 0))) (hr : FRow w r) (hl : r.c.1.length ≤ 1000000) (was n : Int) :
    Calls Try.prog 104 #[.int .i64 was, .int .i64 n, .pointer (some ⟨ob, 0, none⟩)] w fun e w' => e = .returned (.int .i64 n) ∧ ∃ r' : Raw, w'.heap[ob]? = some (.cells #[r'.sl] 26 (0, 0)) ∧ FRow w' r' ∧
      r'.c = (r.c.1 ++ svar (dif was n), r.c.2) ∧ (r'.g = r.g ∨ ∃ b, r'.g = some b ∧ w.heap.size ≤ b) ∧ Away (fun b => b = ob ∨ r.g = some b) w w' := by
  have hd : IntKind.i64.wrap (n - was) = dif was n := IntWalk.i64_left _
  have hdi := dif_in was n
  have hne : ∀ b, r.g = some b → b ≠ ob := fun b hb => by
    obtain ⟨cs, hc⟩ := row_type hr hb
    rintro rfl
    rw [h] at hc
    simp at hc
  have hlt := (Array.getElem?_eq_some_iff.1 h).1
  have H := Lib.hid h
  have x0 : w.cell? ⟨ob, 0, none⟩ = some r.sl := cell_of_row w _ 0 _ _ _ h
  obtain ⟨A, m, c, hA⟩ : ∃ A m c, r.sl = .slice A m c := ⟨_, _, _, rfl⟩
  rw [hA] at x0
  have HA := Lib.hid hA
  clear h hA
  generalize dif was n = d at hd hdi ⊢
  go_enter Try.func104, Try.ntmps104
  go_wp2_with fail
  refine wp_region_held_drew (S := fun _ => True) (by kernel_rfl) trivial (fun hHeld => ?_)
  refine wpAnyH_take (i := 1) (v := ?_) rfl (by kernel_rfl) (by kernel_rfl) (by kernel_rfl) (fun _ _ _ h => h) (Or.inl ⟨by rfl, ?_⟩) hHeld ?_
  rotate_left
  · (intro w hSw; (try dsimp only at hSw); go_simp <;> rfl)
  simp only [Act.put, List.getElem_toArray, List.getElem_cons_zero, List.getElem_cons_succ, List.setIfInBounds_toArray, List.set_cons_zero, List.set_cons_succ]
  refine wpAnyH_take (i := 2) (v := ?_) rfl (by kernel_rfl) (by kernel_rfl) (by kernel_rfl) (fun _ _ _ h => h) (Or.inl ⟨by rfl, ?_⟩) hHeld ?_
  rotate_left
  · (intro w hSw; (try dsimp only at hSw); go_simp <;> rfl)
  simp only [Act.put, List.getElem_toArray, List.getElem_cons_zero, List.getElem_cons_succ, List.setIfInBounds_toArray, List.set_cons_zero, List.set_cons_succ]
  refine wpAnyH_take (i := 3) (v := ?_) rfl (by kernel_rfl) (by kernel_rfl) (by kernel_rfl) (fun _ _ _ h => h) (Or.inl ⟨by rfl, ?_⟩) hHeld ?_
  rotate_left
  · (intro w hSw; (try dsimp only at hSw); go_simp <;> rfl)
  simp only [Act.put, List.getElem_toArray, List.getElem_cons_zero, List.getElem_cons_succ, List.setIfInBounds_toArray, List.set_cons_zero, List.set_cons_succ]
  refine wpAnyH_ready (rs := [0, 4]) (by kernel_rfl) (by simp) ?_
  refine AllReadyH.cons rfl (fun K hK => ?_) (AllReadyH.cons rfl (fun K hK => ?_) AllReadyH.nil)
  · have x1 : w.drew.cell? ⟨ob, 0, none⟩ = some (.slice A m c) := x0
    go_simp
    refine hK.out _ _ trivial (fun hHeld => ?_)
    clear hK K
    try simp only [Act.put, List.getElem_toArray, List.getElem_cons_zero, List.getElem_cons_succ, List.setIfInBounds_toArray, List.set_cons_zero, List.set_cons_succ]
    refine wpAnyH_ready (rs := [4]) (by kernel_rfl) (by simp) ?_
    refine AllReadyH.cons rfl (fun K hK => ?_) AllReadyH.nil
    go_simp
    refine (int_any none 0 0 d [] _ (IsB.nil _) (by omega) hdi.1 hdi.2).mono ?_
    rintro e w2 ⟨v, rfl, ho, hb2⟩
    rw [List.nil_append] at ho
    obtain ⟨B, mb, cb, rfl, hI⟩ := own_slice ho
    have hb2' := bstep0 ((Below.refl _ w).drew) hb2
    have hr2 := hr.away (Away.of_new hb2' (fun _ => False)) (fun _ _ f => f)
    have h2 := (hb2'.block _ hlt).trans H.out
    have x1 := cell_below hb2' _ _ x0
    clear hb2 ho
    dsimp only
    refine hK.out _ _ trivial (fun hHeld => ?_)
    clear hK K
    try simp only [Act.put, List.getElem_toArray, List.getElem_cons_zero, List.getElem_cons_succ, List.setIfInBounds_toArray, List.set_cons_zero, List.set_cons_succ]
    have hmb := hI.len
    have hsv : (svar d).length ≤ 10 := svar_most hdi
    unfold svar at hsv
    have hsz := hb2'.size
    obtain ⟨v', w3, hap, g, cap, rfl, hrow, hg, hgr⟩ := rowB hr2 hI (by omega) A m c HA.out 26
    refine wpAnyH_ready (rs := [5]) (by kernel_rfl) (by simp) ?_
    refine AllReadyH.cons rfl (fun K hK => ?_) AllReadyH.nil
    refine step_run (by simp [Region.wanted]) _ _ 26 rfl (R := fun v' w' => v' = .slice (g.map fun b => ⟨b, 0, none⟩) (m + mb) cap ∧ w' = w3) ⟨_, _, hap, rfl, rfl⟩ ?_
    rintro v' w' ⟨rfl, rfl⟩
    refine hK.out _ _ trivial (fun hHeld => ?_)
    clear hK K
    try simp only [Act.put, List.getElem_toArray, List.getElem_cons_zero, List.getElem_cons_succ, List.setIfInBounds_toArray, List.set_cons_zero, List.set_cons_succ]
    have hag := Away.of_grown hgr
    have hlt2 := (Array.getElem?_eq_some_iff.1 h2).1
    have q3 := (hag.block _ hlt2 (fun e => hne _ e rfl)).trans h2
    have y0 : w'.cell? ⟨ob, 0, none⟩ = some r.sl := cell_of_row w' _ 0 _ _ _ q3
    have yf := free_of_row q3 0
    have Q3 := Lib.hid q3
    have H2 := Lib.hid h2
    clear q3 h2 x0 x1 hap
    refine wpAnyH_ready (rs := [6]) (by kernel_rfl) (by simp) ?_
    refine AllReadyH.cons rfl (fun K hK => ?_) AllReadyH.nil
    go_simp
    refine hK.out _ _ trivial (fun hHeld => ?_)
    clear hK K
    try simp only [Act.put, List.getElem_toArray, List.getElem_cons_zero, List.getElem_cons_succ, List.setIfInBounds_toArray, List.set_cons_zero, List.set_cons_succ]
    refine wpAnyH_done (by kernel_rfl) ?_ _
    go_wp2_with fail
    go_ret
    have hS := Away.setCell w' ⟨ob, 0, none⟩ (.slice (g.map fun b => ⟨b, 0, none⟩) (m + mb) cap)
    have hgn : ∀ b, g = some b → b ≠ ob := fun b hb e => by
      subst e
      rcases hg with e | e
      · rw [e] at hb; exact hne _ hb rfl
      · rw [e] at hb; injection hb with hb; omega
    have hm : m = r.c.1.length := by
      have := HA.out
      unfold Raw.sl at this
      simp at this
      exact this.2.1.symm
    have hsl : Raw.sl ⟨g, cap, (r.c.1 ++ uvarint (Lib.zigzag d), r.c.2)⟩ = .slice (g.map fun b => ⟨b, 0, none⟩) (m + mb) cap := by
      unfold Raw.sl
      rw [List.length_append, hmb, hm]
    refine ⟨rfl, ⟨g, cap, (r.c.1 ++ uvarint (Lib.zigzag d), r.c.2)⟩, ?_, hrow.away hS hgn, rfl, ?_, ?_⟩
    · rw [set_blk Q3.out 0, hsl]
      rfl
    · rcases hg with e | e
      · exact .inl e
      · exact .inr ⟨_, e, hsz⟩
    · refine ((Away.of_new hb2' _).trans hag fun b e => .inl (.inr e)).trans hS fun b e => .inl (.inl e)
  · skip
    go_simp
    refine (int_any none 0 0 d [] _ (IsB.nil _) (by omega) hdi.1 hdi.2).mono ?_
    rintro e w2 ⟨v, rfl, ho, hb2⟩
    rw [List.nil_append] at ho
    obtain ⟨B, mb, cb, rfl, hI⟩ := own_slice ho
    have hb2' := bstep0 ((Below.refl _ w).drew) hb2
    have hr2 := hr.away (Away.of_new hb2' (fun _ => False)) (fun _ _ f => f)
    have h2 := (hb2'.block _ hlt).trans H.out
    have x1 := cell_below hb2' _ _ x0
    clear hb2 ho
    dsimp only
    refine hK.out _ _ trivial (fun hHeld => ?_)
    clear hK K
    try simp only [Act.put, List.getElem_toArray, List.getElem_cons_zero, List.getElem_cons_succ, List.setIfInBounds_toArray, List.set_cons_zero, List.set_cons_succ]
    refine wpAnyH_ready (rs := [0]) (by kernel_rfl) (by simp) ?_
    refine AllReadyH.cons rfl (fun K hK => ?_) AllReadyH.nil
    go_simp
    refine hK.out _ _ trivial (fun hHeld => ?_)
    clear hK K
    try simp only [Act.put, List.getElem_toArray, List.getElem_cons_zero, List.getElem_cons_succ, List.setIfInBounds_toArray, List.set_cons_zero, List.set_cons_succ]
    have hmb := hI.len
    have hsv : (svar d).length ≤ 10 := svar_most hdi
    unfold svar at hsv
    have hsz := hb2'.size
    obtain ⟨v', w3, hap, g, cap, rfl, hrow, hg, hgr⟩ := rowB hr2 hI (by omega) A m c HA.out 26
    refine wpAnyH_ready (rs := [5]) (by kernel_rfl) (by simp) ?_
    refine AllReadyH.cons rfl (fun K hK => ?_) AllReadyH.nil
    refine step_run (by simp [Region.wanted]) _ _ 26 rfl (R := fun v' w' => v' = .slice (g.map fun b => ⟨b, 0, none⟩) (m + mb) cap ∧ w' = w3) ⟨_, _, hap, rfl, rfl⟩ ?_
    rintro v' w' ⟨rfl, rfl⟩
    refine hK.out _ _ trivial (fun hHeld => ?_)
    clear hK K
    try simp only [Act.put, List.getElem_toArray, List.getElem_cons_zero, List.getElem_cons_succ, List.setIfInBounds_toArray, List.set_cons_zero, List.set_cons_succ]
    have hag := Away.of_grown hgr
    have hlt2 := (Array.getElem?_eq_some_iff.1 h2).1
    have q3 := (hag.block _ hlt2 (fun e => hne _ e rfl)).trans h2
    have y0 : w'.cell? ⟨ob, 0, none⟩ = some r.sl := cell_of_row w' _ 0 _ _ _ q3
    have yf := free_of_row q3 0
    have Q3 := Lib.hid q3
    have H2 := Lib.hid h2
    clear q3 h2 x0 x1 hap
    refine wpAnyH_ready (rs := [6]) (by kernel_rfl) (by simp) ?_
    refine AllReadyH.cons rfl (fun K hK => ?_) AllReadyH.nil
    go_simp
    refine hK.out _ _ trivial (fun hHeld => ?_)
    clear hK K
    try simp only [Act.put, List.getElem_toArray, List.getElem_cons_zero, List.getElem_cons_succ, List.setIfInBounds_toArray, List.set_cons_zero, List.set_cons_succ]
    refine wpAnyH_done (by kernel_rfl) ?_ _
    go_wp2_with fail
    go_ret
    have hS := Away.setCell w' ⟨ob, 0, none⟩ (.slice (g.map fun b => ⟨b, 0, none⟩) (m + mb) cap)
    have hgn : ∀ b, g = some b → b ≠ ob := fun b hb e => by
      subst e
      rcases hg with e | e
      · rw [e] at hb; exact hne _ hb rfl
      · rw [e] at hb; injection hb with hb; omega
    have hm : m = r.c.1.length := by
      have := HA.out
      unfold Raw.sl at this
      simp at this
      exact this.2.1.symm
    have hsl : Raw.sl ⟨g, cap, (r.c.1 ++ uvarint (Lib.zigzag d), r.c.2)⟩ = .slice (g.map fun b => ⟨b, 0, none⟩) (m + mb) cap := by
      unfold Raw.sl
      rw [List.length_append, hmb, hm]
    refine ⟨rfl, ⟨g, cap, (r.c.1 ++ uvarint (Lib.zigzag d), r.c.2)⟩, ?_, hrow.away hS hgn, rfl, ?_, ?_⟩
    · rw [set_blk Q3.out 0, hsl]
      rfl
    · rcases hg with e | e
      · exact .inl e
      · exact .inr ⟨_, e, hsz⟩
    · refine ((Away.of_new hb2' _).trans hag fun b e => .inl (.inr e)).trans hS fun b e => .inl (.inl e)

end Go.Proofs.Ytiockkphciadeaa
