/-
  The chapter's examples come out as written.
-/
import Derived.Test.YtiockkphciadeaaKSgAwakeA
set_option linter.unusedVariables false
set_option linter.unusedSimpArgs false
namespace Go.Proofs.Ytiockkphciadeaa
open Go.RowKit
open Go.Lib (byteCells byteCells_length byteCells_append uvarint)

theorem same_evs {w : World} {A : Option Addr} {n c : Nat} {l : List Ev} {B : Option Addr} {m d : Nat} (h1 : IsEv w A n c l) (h2 : IsEv w B m d l) (hn : n ≤ 1000000 := by decide) (hm : m ≤ 1000000 := by decide) :
    Calls Try.prog 47 #[.slice A n c, .slice B m d] w fun e w' => e = .returned (.bool true) ∧ Below w.heap.size w w' := by
  have := sameev_any h1 h2 hn hm
  rwa [decide_eq_true rfl] at this
set_option maxRecDepth 100000 in
set_option maxHeartbeats 4000000 in
theorem awake4_any (w : World) : Calls Try.prog 45 #[] w fun e w' => e = .returned (.bool true) ∧ Below w.heap.size w w' := by
  have HH := Lib.hid (Head_any 0 w (by decide))
  have hmk1 : ∀ u : World, (Instr.makeSlice 60 (.int .i64 1) (.int .i64 1)).run Try.prog u = .ok (.slice (some ⟨u.heap.size, 0, none⟩) 1 1) (u.alloc (.cells #[.int .i64 0, .int .u8 0, .int .i64 0, .int .i64 0, .int .i64 0] 54)) := fun _ => by kernel_rfl
  have hmk2 : ∀ u : World, (Instr.makeSlice 60 (.int .i64 2) (.int .i64 2)).run Try.prog u = .ok (.slice (some ⟨u.heap.size, 0, none⟩) 2 2) (u.alloc (.cells #[.int .i64 0, .int .u8 0, .int .i64 0, .int .i64 0, .int .i64 0, .int .i64 0, .int .u8 0, .int .i64 0, .int .i64 0, .int .i64 0] 54)) := fun _ => by kernel_rfl
  go_enter Try.func45, Try.ntmps45
  go_wp2_with fail
  refine HH.out.mono ?_
  rintro e w1 ⟨v, rfl, ho, hb1⟩
  obtain ⟨AH, mH, cH, rfl, hH⟩ := own_slice ho
  obtain rfl : mH = 9 := by rw [← hH.len, head0_len]
  clear ho HH
  have hb1z : Below w1.heap.size w1 (w1.alloc (.cells #[.int .i64 0, .int .u8 0, .int .i64 0, .int .i64 0, .int .i64 0] 54)) := (Below.refl _ _).alloc (Nat.le_refl _) _
  have HFr := Lib.hid (refFrame_any _ 1 1 [Ev.zero] _ (ev_lit w1 Ev.zero 54 (0, 0)) (by decide) (by decide) evs0.ok)
  have HB1 := Lib.hid hb1
  have HB1z := Lib.hid hb1z
  have HH1 := Lib.hid hH
  clear hb1 hb1z hH
  go_wp2_with fail
  refine HFr.out.mono ?_
  rintro e w2 ⟨v, rfl, ho, hb2⟩
  rw [frame0_of] at ho
  obtain ⟨AF, mF, cF, rfl, hF⟩ := own_slice ho
  obtain rfl : mF = 11 := by rw [← hF.len, frame0_is]; rfl
  have hb2' : Below w1.heap.size w1 w2 := HB1z.out.trans (hb2.mono HB1z.out.size)
  have hH := HH1.out.below hb2'
  have hB := HB1.out.trans (hb2'.mono HB1.out.size)
  clear ho HFr hb2
  have hb2z : Below w2.heap.size w2 (w2.alloc (.cells #[.int .i64 0, .int .u8 0, .int .i64 0, .int .i64 0, .int .i64 0, .int .i64 0, .int .u8 0, .int .i64 0, .int .i64 0, .int .i64 0] 54)) := (Below.refl _ _).alloc (Nat.le_refl _) _
  have HPk := Lib.hid (Pack_any 0 _ 2 2 [Ev.zero, Ev.zero] _ (two_zero w2 54 rfl) (by decide) (by decide) (by intro x hx; simp at hx; subst hx; exact Ev.zero_ok) (by decide))
  have HB2 := Lib.hid hB
  have HB2z := Lib.hid hb2z
  have HH2 := Lib.hid hH
  have HF2 := Lib.hid hF
  clear hb2z hH hF hB hb2' HH1 HB1 HB1z
  go_wp2_with fail
  refine HPk.out.mono ?_
  rintro e w3 ⟨v, rfl, ho, hb3⟩
  rw [dense0_of] at ho
  obtain ⟨AP, mP, cP, rfl, hP⟩ := own_slice ho
  have hmP := hP.len
  obtain rfl : mP = 20 := by rw [← hmP]; unfold sealed; rw [List.length_append, sumBytes_length]; rfl
  have hb3' : Below w2.heap.size w2 w3 := HB2z.out.trans (hb3.mono HB2z.out.size)
  have hH := HH2.out.below hb3'
  have hF := HF2.out.below hb3'
  have hB := HB2.out.trans (hb3'.mono HB2.out.size)
  have HUn := Lib.hid (Unpack_any AP 20 cP _ w3 hP (by decide))
  have hun : unpackOf (sealed dense0) = (0, [Ev.zero, Ev.zero], 0) := by
    rw [← dense0_of]
    exact unpackOf_pack (by decide) (by decide) (by decide) (by intro x hx; simp at hx; subst hx; exact Ev.zero_ok)
  rw [hun] at HUn
  have HB3 := Lib.hid hB
  have HH3 := Lib.hid hH
  have HF3 := Lib.hid hF
  have HP3 := Lib.hid hP
  clear ho HPk hb3 hb3' hH hF hB hP hmP hun HH2 HF2 HB2 HB2z
  go_wp2_with fail
  refine HUn.out.mono ?_
  rintro e w4 ⟨⟨v, rfl, hO4⟩, hb4⟩
  obtain ⟨AE, mE, cE, rfl, hE, hmE, -⟩ := hO4.is_
  obtain rfl : mE = 2 := hmE
  have hH := HH3.out.below hb4
  have hF := HF3.out.below hb4
  have hP := HP3.out.below hb4
  have hB9 := HB3.out.trans (hb4.mono HB3.out.size)
  have hcF := hF.cap
  clear hO4 hb4 HUn HH3 HF3 HP3 HB3 hmk1
  have HMK := Lib.hid hmk2
  clear hmk2
  go_wp2_with fail
  replace hH := hH.drew
  replace hF := hF.drew
  replace hP := hP.drew
  replace hE := hE.below ((Below.refl _ w4).drew)
  replace hB9 := hB9.drew
  refine wp_region_held_drew (S := fun w' => Below w4.drew.heap.size w4.drew w') (by kernel_rfl) (Below.refl _ _) (fun hHeld => ?_)
  generalize w4.drew = wa at hH hF hP hE hB9 hHeld ⊢
  refine wpAnyH_take (i := 0) (v := ?_) rfl (by kernel_rfl) (by kernel_rfl) (by kernel_rfl) (fun _ _ _ h => h) (Or.inl ⟨by rfl, ?_⟩) hHeld ?_
  rotate_left
  · (intro w hSw; (try dsimp only at hSw); go_simp <;> rfl)
  simp only [Act.put, List.getElem_toArray, List.getElem_cons_zero, List.getElem_cons_succ, List.setIfInBounds_toArray, List.set_cons_zero, List.set_cons_succ]
  refine wpAnyH_take (i := 1) (v := ?_) rfl (by kernel_rfl) (by kernel_rfl) (by kernel_rfl) (fun _ _ _ h => h) (Or.inl ⟨by rfl, ?_⟩) hHeld ?_
  rotate_left
  · (intro w hSw; (try dsimp only at hSw); go_simp <;> rfl)
  simp only [Act.put, List.getElem_toArray, List.getElem_cons_zero, List.getElem_cons_succ, List.setIfInBounds_toArray, List.set_cons_zero, List.set_cons_succ]
  have hbN : Below wa.heap.size wa (wa.alloc (.cells #[.int .u8 65, .int .u8 77, .int .u8 83, .int .u8 49, .int .u8 0] 5)) := (Below.refl _ _).alloc (Nat.le_refl _) _
  have hNew := new_bytes wa [65, 77, 83, 49, 0] #[.int .u8 65, .int .u8 77, .int .u8 83, .int .u8 49, .int .u8 0] 5 (0, 0) 5 rfl rfl
  refine wpAnyH_ready (rs := [2]) (by kernel_rfl) (by simp) ?_
  refine AllReadyH.cons rfl (fun K hK => ?_) AllReadyH.nil
  go_simp
  refine hK.out _ _ (bstep0 hHeld hbN) (fun hHeld => ?_)
  clear hK K
  try simp only [Act.put, List.getElem_toArray, List.getElem_cons_zero, List.getElem_cons_succ, List.setIfInBounds_toArray, List.set_cons_zero, List.set_cons_succ]
  generalize wa.alloc (.cells #[.int .u8 65, .int .u8 77, .int .u8 83, .int .u8 49, .int .u8 0] 5) = wb at hbN hNew hHeld ⊢
  refine wpAnyH_mono (S' := fun w' => Below wb.heap.size wb w') (fun _ hh => bstep0 hHeld hh) _ _ _ _ ?_
  replace hHeld : Below wb.heap.size wb wb := Below.refl _ _
  replace hH := hH.below hbN
  replace hF := hF.below hbN
  replace hP := hP.below hbN
  replace hE := hE.below hbN
  replace hB9 := bstep0 hB9 hbN
  clear hbN
  refine wpAnyH_ready (rs := [3]) (by kernel_rfl) (by simp) ?_
  refine AllReadyH.cons rfl (fun K hK => ?_) AllReadyH.nil
  go_simp
  refine (is4_true (w := wb) (by rw [← head0]; exact hH) hNew (by decide)).mono ?_
  rintro ex wc ⟨rfl, hbN⟩
  clear hNew
  dsimp only
  refine hK.out _ _ (bstep0 hHeld hbN) (fun hHeld => ?_)
  clear hK K
  try simp only [Act.put, List.getElem_toArray, List.getElem_cons_zero, List.getElem_cons_succ, List.setIfInBounds_toArray, List.set_cons_zero, List.set_cons_succ]
  refine wpAnyH_mono (S' := fun w' => Below wc.heap.size wc w') (fun _ hh => bstep0 hHeld hh) _ _ _ _ ?_
  replace hHeld : Below wc.heap.size wc wc := Below.refl _ _
  replace hH := hH.below hbN
  replace hF := hF.below hbN
  replace hP := hP.below hbN
  replace hE := hE.below hbN
  replace hB9 := bstep0 hB9 hbN
  clear hbN
  refine wpAnyH_take (i := 4) (v := ?_) rfl (by kernel_rfl) (by kernel_rfl) (by kernel_rfl) (fun _ _ _ h => h) (Or.inl ⟨by rfl, ?_⟩) hHeld ?_
  rotate_left
  · (intro w hSw; (try dsimp only at hSw); go_simp <;> rfl)
  simp only [Act.put, List.getElem_toArray, List.getElem_cons_zero, List.getElem_cons_succ, List.setIfInBounds_toArray, List.set_cons_zero, List.set_cons_succ]
  refine wpAnyH_take (i := 5) (v := ?_) rfl (by kernel_rfl) (by kernel_rfl) (by kernel_rfl) (fun _ _ _ h => h) (Or.inl ⟨by rfl, ?_⟩) hHeld ?_
  rotate_left
  · (intro w hSw; (try dsimp only at hSw); go_simp <;> rfl)
  simp only [Act.put, List.getElem_toArray, List.getElem_cons_zero, List.getElem_cons_succ, List.setIfInBounds_toArray, List.set_cons_zero, List.set_cons_succ]
  refine wpAnyH_ready (rs := [6]) (by kernel_rfl) (by simp) ?_
  refine AllReadyH.cons rfl (fun K hK => ?_) AllReadyH.nil
  go_simp
  refine (scanned_any (w := wc) (f := 0) (m := 0) (k := 9) (es := []) hH (by decide) scan_head0 rfl).mono ?_
  rintro ex wd ⟨rfl, hbN⟩
  dsimp only
  refine hK.out _ _ (bstep0 hHeld hbN) (fun hHeld => ?_)
  clear hK K
  try simp only [Act.put, List.getElem_toArray, List.getElem_cons_zero, List.getElem_cons_succ, List.setIfInBounds_toArray, List.set_cons_zero, List.set_cons_succ]
  refine wpAnyH_mono (S' := fun w' => Below wd.heap.size wd w') (fun _ hh => bstep0 hHeld hh) _ _ _ _ ?_
  replace hHeld : Below wd.heap.size wd wd := Below.refl _ _
  replace hH := hH.below hbN
  replace hF := hF.below hbN
  replace hP := hP.below hbN
  replace hE := hE.below hbN
  replace hB9 := bstep0 hB9 hbN
  clear hbN
  refine wpAnyH_take (i := 7) (v := ?_) rfl (by kernel_rfl) (by kernel_rfl) (by kernel_rfl) (fun _ _ _ h => h) (Or.inl ⟨by rfl, ?_⟩) hHeld ?_
  rotate_left
  · (intro w hSw; (try dsimp only at hSw); go_simp <;> rfl)
  simp only [Act.put, List.getElem_toArray, List.getElem_cons_zero, List.getElem_cons_succ, List.setIfInBounds_toArray, List.set_cons_zero, List.set_cons_succ]
  refine wpAnyH_take (i := 8) (v := ?_) rfl (by kernel_rfl) (by kernel_rfl) (by kernel_rfl) (fun _ _ _ h => h) (Or.inl ⟨by rfl, ?_⟩) hHeld ?_
  rotate_left
  · (intro w hSw; (try dsimp only at hSw); go_simp <;> rfl)
  simp only [Act.put, List.getElem_toArray, List.getElem_cons_zero, List.getElem_cons_succ, List.setIfInBounds_toArray, List.set_cons_zero, List.set_cons_succ]
  refine wpAnyH_take (i := 9) (v := ?_) rfl (by kernel_rfl) (by kernel_rfl) (by kernel_rfl) (fun _ _ _ h => h) (Or.inl ⟨by rfl, ?_⟩) hHeld ?_
  rotate_left
  · (intro w hSw; (try dsimp only at hSw); go_simp <;> rfl)
  simp only [Act.put, List.getElem_toArray, List.getElem_cons_zero, List.getElem_cons_succ, List.setIfInBounds_toArray, List.set_cons_zero, List.set_cons_succ]
  refine wpAnyH_take (i := 11) (v := ?_) rfl (by kernel_rfl) (by kernel_rfl) (by kernel_rfl) (fun _ _ _ h => h) (Or.inl ⟨by rfl, ?_⟩) hHeld ?_
  rotate_left
  · (intro w hSw; (try dsimp only at hSw); go_simp <;> rfl)
  simp only [Act.put, List.getElem_toArray, List.getElem_cons_zero, List.getElem_cons_succ, List.setIfInBounds_toArray, List.set_cons_zero, List.set_cons_succ]
  refine wpAnyH_take (i := 12) (v := ?_) rfl (by kernel_rfl) (by kernel_rfl) (by kernel_rfl) (fun _ _ _ h => h) (Or.inl ⟨by rfl, ?_⟩) hHeld ?_
  rotate_left
  · (intro w hSw; (try dsimp only at hSw); go_simp <;> rfl)
  simp only [Act.put, List.getElem_toArray, List.getElem_cons_zero, List.getElem_cons_succ, List.setIfInBounds_toArray, List.set_cons_zero, List.set_cons_succ]
  refine wpAnyH_take (i := 13) (v := ?_) rfl (by kernel_rfl) (by kernel_rfl) (by kernel_rfl) (fun _ _ _ h => h) (Or.inl ⟨by rfl, ?_⟩) hHeld ?_
  rotate_left
  · (intro w hSw; (try dsimp only at hSw); go_simp <;> rfl)
  simp only [Act.put, List.getElem_toArray, List.getElem_cons_zero, List.getElem_cons_succ, List.setIfInBounds_toArray, List.set_cons_zero, List.set_cons_succ]
  refine wpAnyH_take (i := 14) (v := ?_) rfl (by kernel_rfl) (by kernel_rfl) (by kernel_rfl) (fun _ _ _ h => h) (Or.inl ⟨by rfl, ?_⟩) hHeld ?_
  rotate_left
  · (intro w hSw; (try dsimp only at hSw); go_simp <;> rfl)
  simp only [Act.put, List.getElem_toArray, List.getElem_cons_zero, List.getElem_cons_succ, List.setIfInBounds_toArray, List.set_cons_zero, List.set_cons_succ]
  have hsub : IntKind.i64.wrap (10 : Int) = 10 := by decide
  have hc10 : (10 : Int) ≤ (cF : Int) := by omega
  have hc10' : 10 ≤ cF := by omega
  have hF10 : ∀ {u : World}, IsB u AF 11 cF frame0 → IsB u AF 10 cF (frame0.take 10) := fun h => h.take' (by decide)
  refine wpAnyH_take (i := 15) (v := ?_) rfl (by kernel_rfl) (by kernel_rfl) (by kernel_rfl) (fun _ _ _ h => h) (Or.inl ⟨by rfl, ?_⟩) hHeld ?_
  rotate_left
  · (intro w hSw; (try dsimp only at hSw); go_simp <;> rfl)
  simp only [Act.put, List.getElem_toArray, List.getElem_cons_zero, List.getElem_cons_succ, List.setIfInBounds_toArray, List.set_cons_zero, List.set_cons_succ]
  refine wpAnyH_ready (rs := [10]) (by kernel_rfl) (by simp) ?_
  refine AllReadyH.cons rfl (fun K hK => ?_) AllReadyH.nil
  go_simp
  refine (copybytes_any (w := wd) hH (by decide)).mono ?_
  rintro ex we ⟨BC, cC, rfl, hSp, hbc⟩
  dsimp only
  refine hK.out _ _ (bstep0 hHeld hbc) (fun hHeld => ?_)
  clear hK K
  try simp only [Act.put, List.getElem_toArray, List.getElem_cons_zero, List.getElem_cons_succ, List.setIfInBounds_toArray, List.set_cons_zero, List.set_cons_succ]
  obtain ⟨AD, cD, wf, hap, hSp2, hbq⟩ := spare_append hSp hbc.size (hF10 (hF.below hbc)) (by decide)
  have hNew := hSp2.is_
  have hbN : Below wd.heap.size wd wf := hbc.trans hbq
  clear hSp hSp2 hbq hF10
  refine wpAnyH_ready (rs := [16]) (by kernel_rfl) (by simp) ?_
  refine AllReadyH.cons rfl (fun K hK => ?_) AllReadyH.nil
  refine step_run (by first | rfl | kernel_rfl) _ _ 26 rfl (R := fun v' w' => .slice AD 19 cD = v' ∧ wf = w') ⟨_, _, hap, rfl, rfl⟩ ?_
  rintro v' w' ⟨rfl, rfl⟩
  refine hK.out _ _ hbN (fun hHeld => ?_)
  clear hK K hap hbc
  try simp only [Act.put, List.getElem_toArray, List.getElem_cons_zero, List.getElem_cons_succ, List.setIfInBounds_toArray, List.set_cons_zero, List.set_cons_succ]
  refine wpAnyH_mono (S' := fun w' => Below wf.heap.size wf w') (fun _ hh => bstep0 hHeld hh) _ _ _ _ ?_
  replace hHeld : Below wf.heap.size wf wf := Below.refl _ _
  replace hH := hH.below hbN
  replace hF := hF.below hbN
  replace hP := hP.below hbN
  replace hE := hE.below hbN
  replace hB9 := bstep0 hB9 hbN
  clear hbN
  refine wpAnyH_ready (rs := [17]) (by kernel_rfl) (by simp) ?_
  refine AllReadyH.cons rfl (fun K hK => ?_) AllReadyH.nil
  go_simp
  refine (scanned_any (w := wf) (f := 0) (m := 0) (k := 9) (es := []) hNew (by decide) scan_head_cut rfl).mono ?_
  rintro ex wg ⟨rfl, hbN⟩
  clear hNew
  dsimp only
  refine hK.out _ _ (bstep0 hHeld hbN) (fun hHeld => ?_)
  clear hK K
  try simp only [Act.put, List.getElem_toArray, List.getElem_cons_zero, List.getElem_cons_succ, List.setIfInBounds_toArray, List.set_cons_zero, List.set_cons_succ]
  refine wpAnyH_mono (S' := fun w' => Below wg.heap.size wg w') (fun _ hh => bstep0 hHeld hh) _ _ _ _ ?_
  replace hHeld : Below wg.heap.size wg wg := Below.refl _ _
  replace hH := hH.below hbN
  replace hF := hF.below hbN
  replace hP := hP.below hbN
  replace hE := hE.below hbN
  replace hB9 := bstep0 hB9 hbN
  clear hbN
  refine wpAnyH_take (i := 18) (v := ?_) rfl (by kernel_rfl) (by kernel_rfl) (by kernel_rfl) (fun _ _ _ h => h) (Or.inl ⟨by rfl, ?_⟩) hHeld ?_
  rotate_left
  · (intro w hSw; (try dsimp only at hSw); go_simp <;> rfl)
  simp only [Act.put, List.getElem_toArray, List.getElem_cons_zero, List.getElem_cons_succ, List.setIfInBounds_toArray, List.set_cons_zero, List.set_cons_succ]
  refine wpAnyH_take (i := 19) (v := ?_) rfl (by kernel_rfl) (by kernel_rfl) (by kernel_rfl) (fun _ _ _ h => h) (Or.inl ⟨by rfl, ?_⟩) hHeld ?_
  rotate_left
  · (intro w hSw; (try dsimp only at hSw); go_simp <;> rfl)
  simp only [Act.put, List.getElem_toArray, List.getElem_cons_zero, List.getElem_cons_succ, List.setIfInBounds_toArray, List.set_cons_zero, List.set_cons_succ]
  refine wpAnyH_take (i := 20) (v := ?_) rfl (by kernel_rfl) (by kernel_rfl) (by kernel_rfl) (fun _ _ _ h => h) (Or.inl ⟨by rfl, ?_⟩) hHeld ?_
  rotate_left
  · (intro w hSw; (try dsimp only at hSw); go_simp <;> rfl)
  simp only [Act.put, List.getElem_toArray, List.getElem_cons_zero, List.getElem_cons_succ, List.setIfInBounds_toArray, List.set_cons_zero, List.set_cons_succ]
  refine wpAnyH_take (i := 21) (v := ?_) rfl (by kernel_rfl) (by kernel_rfl) (by kernel_rfl) (fun _ _ _ h => h) (Or.inl ⟨by rfl, ?_⟩) hHeld ?_
  rotate_left
  · (intro w hSw; (try dsimp only at hSw); go_simp <;> rfl)
  simp only [Act.put, List.getElem_toArray, List.getElem_cons_zero, List.getElem_cons_succ, List.setIfInBounds_toArray, List.set_cons_zero, List.set_cons_succ]
  have hbN : Below wg.heap.size wg (wg.alloc (.cells #[.int .u8 65, .int .u8 77, .int .u8 68, .int .u8 49, .int .u8 0, .int .u8 2, .int .u8 0, .int .u8 2, .int .u8 0, .int .u8 2, .int .u8 0, .int .u8 2, .int .u8 0, .int .u8 2, .int .u8 0, .int .u8 2] 5)) := (Below.refl _ _).alloc (Nat.le_refl _) _
  have hNew := new_bytes wg dense0 #[.int .u8 65, .int .u8 77, .int .u8 68, .int .u8 49, .int .u8 0, .int .u8 2, .int .u8 0, .int .u8 2, .int .u8 0, .int .u8 2, .int .u8 0, .int .u8 2, .int .u8 0, .int .u8 2, .int .u8 0, .int .u8 2] 5 (0, 0) 16 rfl rfl
  refine wpAnyH_ready (rs := [22]) (by kernel_rfl) (by simp) ?_
  refine AllReadyH.cons rfl (fun K hK => ?_) AllReadyH.nil
  go_simp
  refine hK.out _ _ (bstep0 hHeld hbN) (fun hHeld => ?_)
  clear hK K
  try simp only [Act.put, List.getElem_toArray, List.getElem_cons_zero, List.getElem_cons_succ, List.setIfInBounds_toArray, List.set_cons_zero, List.set_cons_succ]
  generalize wg.alloc (.cells #[.int .u8 65, .int .u8 77, .int .u8 68, .int .u8 49, .int .u8 0, .int .u8 2, .int .u8 0, .int .u8 2, .int .u8 0, .int .u8 2, .int .u8 0, .int .u8 2, .int .u8 0, .int .u8 2, .int .u8 0, .int .u8 2] 5) = wh at hbN hNew hHeld ⊢
  refine wpAnyH_mono (S' := fun w' => Below wh.heap.size wh w') (fun _ hh => bstep0 hHeld hh) _ _ _ _ ?_
  replace hHeld : Below wh.heap.size wh wh := Below.refl _ _
  replace hH := hH.below hbN
  replace hF := hF.below hbN
  replace hP := hP.below hbN
  replace hE := hE.below hbN
  replace hB9 := bstep0 hB9 hbN
  clear hbN
  refine wpAnyH_ready (rs := [23]) (by kernel_rfl) (by simp) ?_
  refine AllReadyH.cons rfl (fun K hK => ?_) AllReadyH.nil
  go_simp
  refine (is4_true (w := wh) hP hNew (by decide)).mono ?_
  rintro ex wi ⟨rfl, hbN⟩
  clear hNew
  dsimp only
  refine hK.out _ _ (bstep0 hHeld hbN) (fun hHeld => ?_)
  clear hK K
  try simp only [Act.put, List.getElem_toArray, List.getElem_cons_zero, List.getElem_cons_succ, List.setIfInBounds_toArray, List.set_cons_zero, List.set_cons_succ]
  refine wpAnyH_mono (S' := fun w' => Below wi.heap.size wi w') (fun _ hh => bstep0 hHeld hh) _ _ _ _ ?_
  replace hHeld : Below wi.heap.size wi wi := Below.refl _ _
  replace hH := hH.below hbN
  replace hF := hF.below hbN
  replace hP := hP.below hbN
  replace hE := hE.below hbN
  replace hB9 := bstep0 hB9 hbN
  clear hbN
  refine wpAnyH_take (i := 24) (v := ?_) rfl (by kernel_rfl) (by kernel_rfl) (by kernel_rfl) (fun _ _ _ h => h) (Or.inl ⟨by rfl, ?_⟩) hHeld ?_
  rotate_left
  · (intro w hSw; (try dsimp only at hSw); go_simp <;> rfl)
  simp only [Act.put, List.getElem_toArray, List.getElem_cons_zero, List.getElem_cons_succ, List.setIfInBounds_toArray, List.set_cons_zero, List.set_cons_succ]
  refine wpAnyH_take (i := 25) (v := ?_) rfl (by kernel_rfl) (by kernel_rfl) (by kernel_rfl) (fun _ _ _ h => h) (Or.inl ⟨by rfl, ?_⟩) hHeld ?_
  rotate_left
  · (intro w hSw; (try dsimp only at hSw); go_simp <;> rfl)
  simp only [Act.put, List.getElem_toArray, List.getElem_cons_zero, List.getElem_cons_succ, List.setIfInBounds_toArray, List.set_cons_zero, List.set_cons_succ]
  refine wpAnyH_take (i := 26) (v := ?_) rfl (by kernel_rfl) (by kernel_rfl) (by kernel_rfl) (fun _ _ _ h => h) (Or.inl ⟨by rfl, ?_⟩) hHeld ?_
  rotate_left
  · (intro w hSw; (try dsimp only at hSw); go_simp <;> rfl)
  simp only [Act.put, List.getElem_toArray, List.getElem_cons_zero, List.getElem_cons_succ, List.setIfInBounds_toArray, List.set_cons_zero, List.set_cons_succ]
  refine wpAnyH_take (i := 27) (v := ?_) rfl (by kernel_rfl) (by kernel_rfl) (by kernel_rfl) (fun _ _ _ h => h) (Or.inl ⟨by rfl, ?_⟩) hHeld ?_
  rotate_left
  · (intro w hSw; (try dsimp only at hSw); go_simp <;> rfl)
  simp only [Act.put, List.getElem_toArray, List.getElem_cons_zero, List.getElem_cons_succ, List.setIfInBounds_toArray, List.set_cons_zero, List.set_cons_succ]
  refine wpAnyH_take (i := 28) (v := ?_) rfl (by kernel_rfl) (by kernel_rfl) (by kernel_rfl) (fun _ _ _ h => h) (Or.inl ⟨by rfl, ?_⟩) hHeld ?_
  rotate_left
  · (intro w hSw; (try dsimp only at hSw); go_simp <;> rfl)
  simp only [Act.put, List.getElem_toArray, List.getElem_cons_zero, List.getElem_cons_succ, List.setIfInBounds_toArray, List.set_cons_zero, List.set_cons_succ]
  refine wpAnyH_take (i := 29) (v := ?_) rfl (by kernel_rfl) (by kernel_rfl) (by kernel_rfl) (fun _ _ _ h => h) (Or.inl ⟨by rfl, ?_⟩) hHeld ?_
  rotate_left
  · (intro w hSw; (try dsimp only at hSw); go_simp <;> rfl)
  simp only [Act.put, List.getElem_toArray, List.getElem_cons_zero, List.getElem_cons_succ, List.setIfInBounds_toArray, List.set_cons_zero, List.set_cons_succ]
  refine wpAnyH_take (i := 30) (v := ?_) rfl (by kernel_rfl) (by kernel_rfl) (by kernel_rfl) (fun _ _ _ h => h) (Or.inl ⟨by rfl, ?_⟩) hHeld ?_
  rotate_left
  · (intro w hSw; (try dsimp only at hSw); go_simp <;> rfl)
  simp only [Act.put, List.getElem_toArray, List.getElem_cons_zero, List.getElem_cons_succ, List.setIfInBounds_toArray, List.set_cons_zero, List.set_cons_succ]
  refine wpAnyH_take (i := 31) (v := ?_) rfl (by kernel_rfl) (by kernel_rfl) (by kernel_rfl) (fun _ _ _ h => h) (Or.inl ⟨by rfl, ?_⟩) hHeld ?_
  rotate_left
  · (intro w hSw; (try dsimp only at hSw); go_simp <;> rfl)
  simp only [Act.put, List.getElem_toArray, List.getElem_cons_zero, List.getElem_cons_succ, List.setIfInBounds_toArray, List.set_cons_zero, List.set_cons_succ]
  refine wpAnyH_take (i := 32) (v := ?_) rfl (by kernel_rfl) (by kernel_rfl) (by kernel_rfl) (fun _ _ _ h => h) (Or.inl ⟨by rfl, ?_⟩) hHeld ?_
  rotate_left
  · (intro w hSw; (try dsimp only at hSw); go_simp <;> rfl)
  simp only [Act.put, List.getElem_toArray, List.getElem_cons_zero, List.getElem_cons_succ, List.setIfInBounds_toArray, List.set_cons_zero, List.set_cons_succ]
  refine wpAnyH_take (i := 33) (v := ?_) rfl (by kernel_rfl) (by kernel_rfl) (by kernel_rfl) (fun _ _ _ h => h) (Or.inl ⟨by rfl, ?_⟩) hHeld ?_
  rotate_left
  · (intro w hSw; (try dsimp only at hSw); go_simp <;> rfl)
  simp only [Act.put, List.getElem_toArray, List.getElem_cons_zero, List.getElem_cons_succ, List.setIfInBounds_toArray, List.set_cons_zero, List.set_cons_succ]
  refine wpAnyH_take (i := 34) (v := ?_) rfl (by kernel_rfl) (by kernel_rfl) (by kernel_rfl) (fun _ _ _ h => h) (Or.inl ⟨by rfl, ?_⟩) hHeld ?_
  rotate_left
  · (intro w hSw; (try dsimp only at hSw); go_simp <;> rfl)
  simp only [Act.put, List.getElem_toArray, List.getElem_cons_zero, List.getElem_cons_succ, List.setIfInBounds_toArray, List.set_cons_zero, List.set_cons_succ]
  have hmk2 := HMK.out
  have hbN : Below wi.heap.size wi (wi.alloc (.cells #[.int .i64 0, .int .u8 0, .int .i64 0, .int .i64 0, .int .i64 0, .int .i64 0, .int .u8 0, .int .i64 0, .int .i64 0, .int .i64 0] 54)) := (Below.refl _ _).alloc (Nat.le_refl _) _
  have hNew := two_zero wi 54 rfl
  refine wpAnyH_ready (rs := [35]) (by kernel_rfl) (by simp) ?_
  refine AllReadyH.cons rfl (fun K hK => ?_) AllReadyH.nil
  go_simp
  refine hK.out _ _ (bstep0 hHeld hbN) (fun hHeld => ?_)
  clear hK K
  try simp only [Act.put, List.getElem_toArray, List.getElem_cons_zero, List.getElem_cons_succ, List.setIfInBounds_toArray, List.set_cons_zero, List.set_cons_succ]
  generalize wi.alloc (.cells #[.int .i64 0, .int .u8 0, .int .i64 0, .int .i64 0, .int .i64 0, .int .i64 0, .int .u8 0, .int .i64 0, .int .i64 0, .int .i64 0] 54) = wj at hbN hNew hHeld ⊢
  refine wpAnyH_mono (S' := fun w' => Below wj.heap.size wj w') (fun _ hh => bstep0 hHeld hh) _ _ _ _ ?_
  replace hHeld : Below wj.heap.size wj wj := Below.refl _ _
  replace hH := hH.below hbN
  replace hF := hF.below hbN
  replace hP := hP.below hbN
  replace hE := hE.below hbN
  replace hB9 := bstep0 hB9 hbN
  clear hbN
  refine wpAnyH_ready (rs := [36]) (by kernel_rfl) (by simp) ?_
  refine AllReadyH.cons rfl (fun K hK => ?_) AllReadyH.nil
  go_simp
  refine (same_evs (w := wj) hE hNew).mono ?_
  rintro ex wk ⟨rfl, hbN⟩
  clear hNew
  dsimp only
  refine hK.out _ _ (bstep0 hHeld hbN) (fun hHeld => ?_)
  clear hK K
  try simp only [Act.put, List.getElem_toArray, List.getElem_cons_zero, List.getElem_cons_succ, List.setIfInBounds_toArray, List.set_cons_zero, List.set_cons_succ]
  refine wpAnyH_mono (S' := fun w' => Below wk.heap.size wk w') (fun _ hh => bstep0 hHeld hh) _ _ _ _ ?_
  replace hHeld : Below wk.heap.size wk wk := Below.refl _ _
  replace hH := hH.below hbN
  replace hF := hF.below hbN
  replace hP := hP.below hbN
  replace hE := hE.below hbN
  replace hB9 := bstep0 hB9 hbN
  clear hbN
  refine wpAnyH_take (i := 37) (v := ?_) rfl (by kernel_rfl) (by kernel_rfl) (by kernel_rfl) (fun _ _ _ h => h) (Or.inl ⟨by rfl, ?_⟩) hHeld ?_
  rotate_left
  · (intro w hSw; (try dsimp only at hSw); go_simp <;> rfl)
  simp only [Act.put, List.getElem_toArray, List.getElem_cons_zero, List.getElem_cons_succ, List.setIfInBounds_toArray, List.set_cons_zero, List.set_cons_succ]
  refine wpAnyH_ready (rs := [38]) (by kernel_rfl) (by simp) ?_
  refine AllReadyH.cons rfl (fun K hK => ?_) AllReadyH.nil
  go_simp
  refine hK.out _ _ hHeld (fun hHeld => ?_)
  clear hK K
  try simp only [Act.put, List.getElem_toArray, List.getElem_cons_zero, List.getElem_cons_succ, List.setIfInBounds_toArray, List.set_cons_zero, List.set_cons_succ]
  refine wpAnyH_done (by kernel_rfl) ?_ _
  go_wp2_with fail
  go_ret
  exact ⟨rfl, hB9⟩
end Go.Proofs.Ytiockkphciadeaa
