/-
  Append as the document has it.
-/
import Derived.Test.YtebpdlggkncliaaKDkSync
import Derived.Deep.QuietTactic
import Derived.BigQuiet
import Derived.Deep.RegionHeld3
set_option linter.unusedVariables false
set_option linter.unusedSimpArgs false
namespace Go.Proofs.Ytebpdlggkncliaa
open Go.RowKit Go.Maps

theorem IsB.not_disk {w : World} {a mb : Nat} {ms : List (Nm × Raw)} {most : Nat} {armed : Bool} {lv : Int} {down : Bool} (h : DkP w a mb ms most armed lv down) {B : Option Addr} {n c : Nat} {l : List UInt8} (hB : IsB w B n c l) {w' : World} (hA : Away (fun b => b = a) w w') : IsB w' B n c l := by
  refine ⟨hB.len, hB.cap, hB.none_, ?_⟩
  rcases hB.src with h0 | ⟨b, o, hb, hc⟩
  · exact .inl h0
  · refine .inr ⟨b, o, hb, fun j u hj => away_cell hA ?_ (hc j u hj)⟩
    rintro rfl
    have h1 := hc j u hj
    have h2 := h.cell (o + j)
    rw [h1] at h2
    unfold cellsD at h2
    match o + j, h2 with
    | 0, h2 => simp at h2
    | 1, h2 => simp at h2
    | 2, h2 => simp at h2
    | 3, h2 => simp at h2
    | 4, h2 => simp at h2
    | 5, h2 => simp at h2
    | k + 6, h2 => simp at h2

theorem below_drewN' {B : Nat} {a w : World} (h : Below B a w) (n : Nat) : Below B a (w.drewN n) := ⟨h.os, h.tape, h.output, h.size, h.block⟩
theorem atR_c (ms : List (Nm × Raw)) (nm : Nm) : (aget nm (amap Raw.c ms)).getD ([], 0) = (atR ms nm).c := by
  rw [aget_amap]
  unfold atR
  cases aget nm ms <;> rfl
theorem atR_props {w : World} {a mb : Nat} {ms : List (Nm × Raw)} {most : Nat} {armed : Bool} {lv : Int} {down : Bool} (h : DkP w a mb ms most armed lv down) (nm : Nm) :
    FRow w (atR ms nm) ∧ (∀ p ∈ ms, p.1 ≠ nm → ∀ b, (atR ms nm).g = some b → p.2.g ≠ some b) ∧ (∀ b, (atR ms nm).g = some b → FootR mb ms b) ∧ (atR ms nm).c.1.length ≤ usedR ms := by
  unfold atR
  cases hg : aget nm ms with
  | none => exact ⟨FRow.zero w, (fun _ _ _ _ e => by cases e), (fun _ e => by cases e), Nat.zero_le _⟩
  | some r =>
    have hm := aget_mem hg
    have hu := asum_adel (g := fun r : Raw => r.c.1.length) h.files.rise nm
    rw [hg] at hu
    refine ⟨h.files.rows _ hm, fun p hp hn b hb => h.files.two hm hp (fun e => hn e.symm) hb, fun b hb => .inr ⟨_, hm, hb⟩, ?_⟩
    unfold usedR
    simp at hu ⊢
    omega
theorem append_wf' {s : St} (h : s.wf) {nm : Nm} {l : List UInt8} (hr : rightN nm = true) (hf : ¬ (s.most < s.used + l.length ∨ (aget nm s.fs = none ∧ s.fs.length = 200))) :
    ({ s with fs := aput nm (((aget nm s.fs).getD ([], 0)).1 ++ l, ((aget nm s.fs).getD ([], 0)).2) s.fs } : St).wf := by
  refine St.put_wf h hr ?_ ?_ ?_
  · cases hg : aget nm s.fs with
    | none => simp
    | some c => have := h.safe _ (aget_mem hg); simp at this ⊢; omega
  · cases hg : aget nm s.fs with
    | none => simp; omega
    | some c => simp; omega
  · intro hg
    have := h.count
    have : ¬ s.fs.length = 200 := fun e => hf (.inr ⟨hg, e⟩)
    omega

set_option maxRecDepth 100000 in
set_option maxHeartbeats 4000000 in
theorem append_disk {w : World} {F : Nat → Prop} {a : Nat} {s : St} (h : Dk w F a s) (nm : ByteArray) (hnm : nm.size ≤ maxLen) {B : Option Addr} {n c : Nat} {l : List UInt8} (hB : IsB w B n c l) (hn : n ≤ maxLen) :
    Calls Try.prog 9 #[.pointer (some ⟨a, 0, none⟩), .string nm, .slice B n c] w fun e w' =>
      e = .returned (.int .i64 ((s.append nm.data.toList l).2 : Int)) ∧ Turned w F a w' (s.append nm.data.toList l).1 := by
  unfold maxLen at hn
  have hln := hB.len
  have hwf := h.1
  obtain ⟨_, hFl, mb, ms, lv, hp, hlv, hfs, hfoot⟩ := h
  have hB2 := (((Below.refl w.heap.size w).alloc (Nat.le_refl _) (.cells #[.pointer (some ⟨a, 0, none⟩)] 22)).alloc (by simp) (.cells #[.string nm] 9)).alloc (by simp <;> omega) (.cells #[.slice B n c] 26)
  have hp2 := hp.away (Away.of_below hB2) (by have := hp.lt; omega) fun b hb => by have := hp.files.lt hb; omega
  have hal := hp.lt
  have hx0 : (((w.alloc (.cells #[.pointer (some ⟨a, 0, none⟩)] 22)).alloc (.cells #[.string nm] 9)).alloc (.cells #[.slice B n c] 26)).heap[w.heap.size]? = some (.cells #[.pointer (some ⟨a, 0, none⟩)] 22) :=
    (heap_alloc_old _ _ (by simp <;> omega)).trans ((heap_alloc_old _ _ (by simp <;> omega)).trans (heap_alloc_new _ _))
  have hx1 : (((w.alloc (.cells #[.pointer (some ⟨a, 0, none⟩)] 22)).alloc (.cells #[.string nm] 9)).alloc (.cells #[.slice B n c] 26)).heap[w.heap.size + 1]? = some (.cells #[.string nm] 9) := by
    have h0 := heap_alloc_new (w.alloc (.cells #[.pointer (some ⟨a, 0, none⟩)] 22)) (.cells #[.string nm] 9)
    rw [show (w.alloc (.cells #[.pointer (some ⟨a, 0, none⟩)] 22)).heap.size = w.heap.size + 1 by simp] at h0
    exact (heap_alloc_old _ _ (by simp <;> omega)).trans h0
  have hx2 : (((w.alloc (.cells #[.pointer (some ⟨a, 0, none⟩)] 22)).alloc (.cells #[.string nm] 9)).alloc (.cells #[.slice B n c] 26)).heap[w.heap.size + 2]? = some (.cells #[.slice B n c] 26) := by
    have h0 := heap_alloc_new ((w.alloc (.cells #[.pointer (some ⟨a, 0, none⟩)] 22)).alloc (.cells #[.string nm] 9)) (.cells #[.slice B n c] 26)
    rwa [show ((w.alloc (.cells #[.pointer (some ⟨a, 0, none⟩)] 22)).alloc (.cells #[.string nm] 9)).heap.size = w.heap.size + 2 by simp] at h0
  have hsz2 : (((w.alloc (.cells #[.pointer (some ⟨a, 0, none⟩)] 22)).alloc (.cells #[.string nm] 9)).alloc (.cells #[.slice B n c] 26)).heap.size = w.heap.size + 3 := by simp
  have hmf : ∀ (fn : Fn) (first cap : Array Value) (w : World), (Instr.makeFunc fn first cap).run Try.prog w = .ok (.func fn first cap) w := fun _ _ _ _ => rfl
  have HS : Hid (∀ w', Below w.heap.size w w' → Turned w F a w' s) := fun w' hb => same_turned ⟨hwf, hFl, mb, ms, lv, hp, hlv, hfs, hfoot⟩ hb
  have HX0 := Lib.hid hx0
  have HX1 := Lib.hid hx1
  have HX2 := Lib.hid hx2
  have HSZ := Lib.hid hsz2
  have hus := used_of hfs
  clear hx0 hx1 hx2 hsz2
  by_cases hd : s.down = true
  · have HR : Hid (s.append nm.data.toList l = (s, 15)) := by show _ = _; unfold St.append; rw [if_pos hd]
    rw [HR.out]
    rw [hd] at hp2
    clear hlv hfs hp hwf hus
    go_enter Try.func9, Try.ntmps9
    go_wp2_with fail
    refine (ready_any hp2).mono ?_
    rintro e w1 ⟨rfl, rfl⟩
    go_wp2_with fail
    go_ret
    exact ⟨rfl, HS.out _ hB2⟩
  have hd : s.down = false := by simpa using hd
  rw [hd] at hp2
  cases hrt : rightN nm.data.toList with
  | false =>
    have HR : Hid (s.append nm.data.toList l = (s, 13)) := by show _ = _; unfold St.append; rw [if_neg (by rw [hd]; simp), if_pos hrt]
    rw [HR.out]
    clear hlv hfs hp hwf hus
    go_enter Try.func9, Try.ntmps9
    go_wp2_with fail
    refine (ready_any hp2).mono ?_
    rintro e w1 ⟨rfl, rfl⟩
    go_wp2_with fail
    refine (right_any nm hnm _).mono ?_
    rintro e w1 ⟨rfl, rfl⟩
    rw [hrt]
    go_wp2_with fail
    go_ret
    exact ⟨rfl, HS.out _ hB2⟩
  | true =>
    obtain ⟨r, hr0⟩ : ∃ r, atR ms nm.data.toList = r := ⟨_, rfl⟩
    obtain ⟨th, hth⟩ : ∃ b, (aget nm.data.toList ms).isSome = b := ⟨_, rfl⟩
    have HR0 := Lib.hid hr0
    have HTH := Lib.hid hth
    clear hr0 hth
    go_enter Try.func9, Try.ntmps9
    go_wp2_with fail
    refine (ready_any hp2).mono ?_
    rintro e w1 ⟨rfl, rfl⟩
    go_wp2_with fail
    refine (right_any nm hnm _).mono ?_
    rintro e w1 ⟨rfl, rfl⟩
    rw [hrt]
    go_wp2_with fail
    have hB1 : Below w.heap.size w (((w.alloc (.cells #[.pointer (some ⟨a, 0, none⟩)] 22)).alloc (.cells #[.string nm] 9)).alloc (.cells #[.slice B n c] 26)) := hB2
    have hI : IsB (((w.alloc (.cells #[.pointer (some ⟨a, 0, none⟩)] 22)).alloc (.cells #[.string nm] 9)).alloc (.cells #[.slice B n c] 26)) B n c l := hB.below hB2
    have HX0' := HX0
    have HX1' := HX1
    have HX2' := HX2
    have HSZ' := HSZ
    generalize (((w.alloc (.cells #[.pointer (some ⟨a, 0, none⟩)] 22)).alloc (.cells #[.string nm] 9)).alloc (.cells #[.slice B n c] 26)) = wa at hp2 hB1 hI HX0' HX1' HX2' HSZ' ⊢
    clear HX0 HX1 HX2 HSZ hB2
    have e0 : wa.drew.cell? ⟨w.heap.size, 0, none⟩ = some (.pointer (some ⟨a, 0, none⟩)) := cell_of_row wa _ 0 _ _ _ HX0'.out
    have e1 : wa.drew.cell? ⟨w.heap.size + 1, 0, none⟩ = some (.string nm) := cell_of_row wa _ 0 _ _ _ HX1'.out
    have c2 : wa.drew.cell? ⟨a, 2, none⟩ = some (.map (some mb)) := hp2.cell 2
    have HLK : Hid (∀ w', Below wa.drew.heap.size wa.drew w' → (Instr.lookup 88 (.map (some mb)) (.string nm) true).run Try.prog w' = .ok (.tuple #[.agg #[.slice (r.g.map fun b => ⟨b, 0, none⟩) r.c.1.length r.cap, .int .i64 (r.c.2 : Int)], .bool th]) w') := fun w' hb => by
      have hq : DkR w' mb ms := DkR.away (w := wa.drew) (hp2.files.away (F := fun _ => False) (Away.refl _ _).drew fun _ _ e => e) (Away.of_below hb) fun b hb' e => by have := hp2.files.lt hb'; have e : wa.heap.size ≤ b := e; omega
      have := look_ok_run hq hnm
      rw [HR0.out, HTH.out] at this
      exact this
    refine wp_region_held_drew (S := fun w' => Below wa.drew.heap.size wa.drew w') (by kernel_rfl) (Below.refl _ _) (fun hHeld => ?_)
    have hwa : Below wa.heap.size wa wa.drew := (Below.refl _ _).drew
    have hP2 : DkP wa.drew a mb ms s.most s.left.isSome lv false := hp2.away (F := fun _ => False) (Away.refl _ _).drew (fun e => e) fun _ _ e => e
    have hI2 : IsB wa.drew B n c l := hI.below hwa
    have HY0 : Hid (wa.drew.heap[w.heap.size]? = some (.cells #[.pointer (some ⟨a, 0, none⟩)] 22)) := HX0'
    have HY1 : Hid (wa.drew.heap[w.heap.size + 1]? = some (.cells #[.string nm] 9)) := HX1'
    have HY2 : Hid (wa.drew.heap[w.heap.size + 2]? = some (.cells #[.slice B n c] 26)) := HX2'
    have HSY : Hid (wa.drew.heap.size = w.heap.size + 3) := HSZ'
    have hB1' : Below w.heap.size w wa.drew := hB1.drew
    clear hp2 hB1 hI HX0' HX1' HX2' HSZ' hwa
    generalize wa.drew = wb at *
    refine wpAnyH_take (i := 0) (v := ?_) rfl (by kernel_rfl) (by kernel_rfl) (by kernel_rfl) (fun _ _ _ h => h) (Or.inl ⟨by rfl, ?_⟩) hHeld ?_
    rotate_left
    · (intro w' hSw; (try dsimp only at hSw); have v0 := cell_below hSw _ _ e0; have v1 := cell_below hSw _ _ e1; have v2 := cell_below hSw _ _ c2; have hlk := HLK.out w' hSw; clear hSw; go_simp <;> rfl)
    simp only [Act.put, List.getElem_toArray, List.getElem_cons_zero, List.getElem_cons_succ, List.setIfInBounds_toArray, List.set_cons_zero, List.set_cons_succ]
    refine wpAnyH_take (i := 1) (v := ?_) rfl (by kernel_rfl) (by kernel_rfl) (by kernel_rfl) (fun _ _ _ h => h) (Or.inl ⟨by rfl, ?_⟩) hHeld ?_
    rotate_left
    · (intro w' hSw; (try dsimp only at hSw); have v0 := cell_below hSw _ _ e0; have v1 := cell_below hSw _ _ e1; have v2 := cell_below hSw _ _ c2; have hlk := HLK.out w' hSw; clear hSw; go_simp <;> rfl)
    simp only [Act.put, List.getElem_toArray, List.getElem_cons_zero, List.getElem_cons_succ, List.setIfInBounds_toArray, List.set_cons_zero, List.set_cons_succ]
    refine wpAnyH_take (i := 2) (v := ?_) rfl (by kernel_rfl) (by kernel_rfl) (by kernel_rfl) (fun _ _ _ h => h) (Or.inl ⟨by rfl, ?_⟩) hHeld ?_
    rotate_left
    · (intro w' hSw; (try dsimp only at hSw); have v0 := cell_below hSw _ _ e0; have v1 := cell_below hSw _ _ e1; have v2 := cell_below hSw _ _ c2; have hlk := HLK.out w' hSw; clear hSw; go_simp <;> rfl)
    simp only [Act.put, List.getElem_toArray, List.getElem_cons_zero, List.getElem_cons_succ, List.setIfInBounds_toArray, List.set_cons_zero, List.set_cons_succ]
    refine wpAnyH_take (i := 3) (v := ?_) rfl (by kernel_rfl) (by kernel_rfl) (by kernel_rfl) (fun _ _ _ h => h) (Or.inl ⟨by rfl, ?_⟩) hHeld ?_
    rotate_left
    · (intro w' hSw; (try dsimp only at hSw); have v0 := cell_below hSw _ _ e0; have v1 := cell_below hSw _ _ e1; have v2 := cell_below hSw _ _ c2; have hlk := HLK.out w' hSw; clear hSw; go_simp <;> rfl)
    simp only [Act.put, List.getElem_toArray, List.getElem_cons_zero, List.getElem_cons_succ, List.setIfInBounds_toArray, List.set_cons_zero, List.set_cons_succ]
    refine wpAnyH_take (i := 4) (v := ?_) rfl (by kernel_rfl) (by kernel_rfl) (by kernel_rfl) (fun _ _ _ h => h) (Or.inl ⟨by rfl, ?_⟩) hHeld ?_
    rotate_left
    · (intro w' hSw; (try dsimp only at hSw); have v0 := cell_below hSw _ _ e0; have v1 := cell_below hSw _ _ e1; have v2 := cell_below hSw _ _ c2; have hlk := HLK.out w' hSw; clear hSw; go_simp <;> rfl)
    simp only [Act.put, List.getElem_toArray, List.getElem_cons_zero, List.getElem_cons_succ, List.setIfInBounds_toArray, List.set_cons_zero, List.set_cons_succ]
    refine wpAnyH_take (i := 5) (v := ?_) rfl (by kernel_rfl) (by kernel_rfl) (by kernel_rfl) (fun _ _ _ h => h) (Or.inl ⟨by rfl, ?_⟩) hHeld ?_
    rotate_left
    · (intro w' hSw; (try dsimp only at hSw); have v0 := cell_below hSw _ _ e0; have v1 := cell_below hSw _ _ e1; have v2 := cell_below hSw _ _ c2; have hlk := HLK.out w' hSw; clear hSw; go_simp <;> rfl)
    simp only [Act.put, List.getElem_toArray, List.getElem_cons_zero, List.getElem_cons_succ, List.setIfInBounds_toArray, List.set_cons_zero, List.set_cons_succ]
    refine wpAnyH_take (i := 6) (v := ?_) rfl (by kernel_rfl) (by kernel_rfl) (by kernel_rfl) (fun _ _ _ h => h) (Or.inl ⟨by rfl, ?_⟩) hHeld ?_
    rotate_left
    · (intro w' hSw; (try dsimp only at hSw); have v0 := cell_below hSw _ _ e0; have v1 := cell_below hSw _ _ e1; have v2 := cell_below hSw _ _ c2; have hlk := HLK.out w' hSw; clear hSw; go_simp <;> rfl)
    simp only [Act.put, List.getElem_toArray, List.getElem_cons_zero, List.getElem_cons_succ, List.setIfInBounds_toArray, List.set_cons_zero, List.set_cons_succ]
    refine wpAnyH_take (i := 7) (v := ?_) rfl (by kernel_rfl) (by kernel_rfl) (by kernel_rfl) (fun _ _ _ h => h) (Or.inl ⟨by rfl, ?_⟩) hHeld ?_
    rotate_left
    · (intro w' hSw; (try dsimp only at hSw); have v0 := cell_below hSw _ _ e0; have v1 := cell_below hSw _ _ e1; have v2 := cell_below hSw _ _ c2; have hlk := HLK.out w' hSw; clear hSw; go_simp <;> rfl)
    simp only [Act.put, List.getElem_toArray, List.getElem_cons_zero, List.getElem_cons_succ, List.setIfInBounds_toArray, List.set_cons_zero, List.set_cons_succ]
    refine wpAnyH_take (i := 8) (v := ?_) rfl (by kernel_rfl) (by kernel_rfl) (by kernel_rfl) (fun _ _ _ h => h) (Or.inl ⟨by rfl, ?_⟩) hHeld ?_
    rotate_left
    · (intro w' hSw; (try dsimp only at hSw); have v0 := cell_below hSw _ _ e0; have v1 := cell_below hSw _ _ e1; have v2 := cell_below hSw _ _ c2; have hlk := HLK.out w' hSw; clear hSw; go_simp <;> rfl)
    simp only [Act.put, List.getElem_toArray, List.getElem_cons_zero, List.getElem_cons_succ, List.setIfInBounds_toArray, List.set_cons_zero, List.set_cons_succ]
    refine wpAnyH_ready (rs := [9]) (by kernel_rfl) (by simp) ?_
    refine AllReadyH.cons rfl (fun K hK => ?_) AllReadyH.nil
    go_simp
    refine hK.out _ _ ((Below.refl _ _).alloc (Nat.le_refl _) _) (fun hHeld => ?_)
    clear hK K
    try simp only [Act.put, List.getElem_toArray, List.getElem_cons_zero, List.getElem_cons_succ, List.setIfInBounds_toArray, List.set_cons_zero, List.set_cons_succ]
    refine wpAnyH_ready (rs := [10]) (by kernel_rfl) (by simp) ?_
    refine AllReadyH.cons rfl (fun K hK => ?_) AllReadyH.nil
    go_simp
    refine hK.out _ _ ((Below.refl _ _).alloc (Nat.le_refl _) _) (fun hHeld => ?_)
    clear hK K
    try simp only [Act.put, List.getElem_toArray, List.getElem_cons_zero, List.getElem_cons_succ, List.setIfInBounds_toArray, List.set_cons_zero, List.set_cons_succ]
    refine wpAnyH_take (i := 11) (v := ?_) rfl (by kernel_rfl) (by kernel_rfl) (by kernel_rfl) (fun _ _ _ h => h) (Or.inl ⟨by rfl, ?_⟩) hHeld ?_
    rotate_left
    · (intro w' hSw; clear hSw; go_simp <;> rfl)
    simp only [Act.put, List.getElem_toArray, List.getElem_cons_zero, List.getElem_cons_succ, List.setIfInBounds_toArray, List.set_cons_zero, List.set_cons_succ]
    refine wpAnyH_done (by kernel_rfl) ?_ _
    clear hHeld HLK
    have hBc := hB1'.alloc hB1'.size (.cells #[.slice (r.g.map fun b => ⟨b, 0, none⟩) r.c.1.length r.cap, .int .i64 (r.c.2 : Int)] 94)
    have hPc := hP2.away (Away.of_below ((Below.refl wb.heap.size wb).alloc (Nat.le_refl _) (.cells #[.slice (r.g.map fun b => ⟨b, 0, none⟩) r.c.1.length r.cap, .int .i64 (r.c.2 : Int)] 94))) (by have := hP2.lt; omega) fun b hb => by have := hP2.files.lt hb; omega
    have hIc := hI2.alloc (.cells #[.slice (r.g.map fun b => ⟨b, 0, none⟩) r.c.1.length r.cap, .int .i64 (r.c.2 : Int)] 94)
    have bf : (wb.alloc (.cells #[.slice (r.g.map fun b => ⟨b, 0, none⟩) r.c.1.length r.cap, .int .i64 (r.c.2 : Int)] 94)).heap[wb.heap.size]? = some (.cells #[.slice (r.g.map fun b => ⟨b, 0, none⟩) r.c.1.length r.cap, .int .i64 (r.c.2 : Int)] 94) := heap_alloc_new wb _
    have hb0 := (heap_alloc_old wb (.cells #[.slice (r.g.map fun b => ⟨b, 0, none⟩) r.c.1.length r.cap, .int .i64 (r.c.2 : Int)] 94) (by rw [HSY.out]; omega)).trans HY0.out
    have hb1 := (heap_alloc_old wb (.cells #[.slice (r.g.map fun b => ⟨b, 0, none⟩) r.c.1.length r.cap, .int .i64 (r.c.2 : Int)] 94) (by rw [HSY.out]; omega)).trans HY1.out
    have hb2 := (heap_alloc_old wb (.cells #[.slice (r.g.map fun b => ⟨b, 0, none⟩) r.c.1.length r.cap, .int .i64 (r.c.2 : Int)] 94) (by rw [HSY.out]; omega)).trans HY2.out
    obtain ⟨fb, hfb⟩ : ∃ fb, wb.heap.size = fb := ⟨_, rfl⟩
    have hfb3 : w.heap.size + 3 ≤ fb := by rw [← hfb, HSY.out]; exact Nat.le_refl _
    rw [hfb] at bf ⊢
    generalize wb.alloc (.cells #[.slice (r.g.map fun b => ⟨b, 0, none⟩) r.c.1.length r.cap, .int .i64 (r.c.2 : Int)] 94) = wc at *
    clear hfb HY0 HY1 HY2 HSY e0 e1 c2 hP2 hI2 hB1'
    have e0 : wc.cell? ⟨w.heap.size, 0, none⟩ = some (.pointer (some ⟨a, 0, none⟩)) := cell_of_row wc _ 0 _ _ _ hb0
    have e1 : wc.cell? ⟨w.heap.size + 1, 0, none⟩ = some (.string nm) := cell_of_row wc _ 0 _ _ _ hb1
    have e2 : wc.cell? ⟨w.heap.size + 1 + 1, 0, none⟩ = some (.slice B n c) := cell_of_row wc _ 0 _ _ _ hb2
    have c0 : wc.cell? ⟨a, 0, none⟩ = some (.int .i64 (s.most : Int)) := hPc.cell 0
    have c1 : wc.cell? ⟨a, 1, none⟩ = some (.int .i64 (usedR ms : Int)) := hPc.cell 1
    have c2 : wc.cell? ⟨a, 2, none⟩ = some (.map (some mb)) := hPc.cell 2
    have hlen : ∀ k ty, (Builtin.len_ #[88] ty #[.map (some mb)]).run Try.prog (wc.drewN k) = .ok (.int .i64 (ms.length : Int)) (wc.drewN k) := fun k ty => len_run (hPc.files.away (F := fun _ => False) (w' := wc.drewN k) ⟨rfl, rfl, rfl, Nat.le_refl _, fun _ _ _ => rfl⟩ fun _ _ e => e) ty
    have hmost := hwf.most
    have hroom := hwf.room
    rw [hus] at hroom
    by_cases hA : s.most < usedR ms + n
    · have hA1 : (s.most : Int) - (usedR ms : Int) < (n : Int) := by omega
      have hA2 : decide ((s.most : Int) - (usedR ms : Int) < (n : Int)) = true := decide_eq_true hA1
      have HR : Hid (s.append nm.data.toList l = (s, 5)) := by show _ = _; unfold St.append; rw [if_neg (by rw [hd]; simp), if_neg (by rw [hrt]; simp), if_pos (.inl (by rw [hus]; omega))]
      clear hlv hfs hp hus
      go_wp2_with fail
      go_quiet (fail)
      go_wp2_with fail
      go_ret
      rw [HR.out]
      exact ⟨rfl, HS.out _ (below_drewN' hBc _)⟩
    · have hA1 : ¬ ((s.most : Int) - (usedR ms : Int) < (n : Int)) := by omega
      have hA2 : decide ((s.most : Int) - (usedR ms : Int) < (n : Int)) = false := decide_eq_false hA1
      have hA3 : usedR ms + n ≤ 16777216 := by omega
      have hlenc : s.fs.length = ms.length := by rw [hfs]; simp [amap]
      cases th with
      | true =>
        have hnn : ¬ (s.most < s.used + l.length ∨ (aget nm.data.toList s.fs = none ∧ s.fs.length = 200)) := by
          rintro (h1 | ⟨h1, _⟩)
          · rw [hus] at h1; omega
          · rw [hfs] at h1
            have := at_none h1
            have h2 := HTH.out
            rw [this] at h2; cases h2
        have HR : Hid (s.append nm.data.toList l = s.op fun fs => aput nm.data.toList (((aget nm.data.toList s.fs).getD ([], 0)).1 ++ l, ((aget nm.data.toList s.fs).getD ([], 0)).2) fs) := by show _ = _; unfold St.append; rw [if_neg (by rw [hd]; simp), if_neg (by rw [hrt]; simp), if_neg hnn]
        have hwf2 : ({ s with fs := (fun fs => aput nm.data.toList (((aget nm.data.toList s.fs).getD ([], 0)).1 ++ l, ((aget nm.data.toList s.fs).getD ([], 0)).2) fs) s.fs } : St).wf := append_wf' hwf hrt hnn
        have HC : Hid (∀ kq : Nat, Calls Try.prog 63 #[.pointer (some ⟨a, 0, none⟩), .func (.func 64) #[] #[.pointer (some ⟨fb, 0, none⟩), .pointer (some ⟨w.heap.size + 1 + 1, 0, none⟩), .pointer (some ⟨w.heap.size, 0, none⟩), .pointer (some ⟨w.heap.size + 1, 0, none⟩)]] (wc.drewN kq) fun e W' =>
            e = .returned (.int .i64 ((s.op fun fs => aput nm.data.toList (((aget nm.data.toList s.fs).getD ([], 0)).1 ++ l, ((aget nm.data.toList s.fs).getD ([], 0)).2) fs).2 : Int)) ∧ Turned w F a W' (s.op fun fs => aput nm.data.toList (((aget nm.data.toList s.fs).getD ([], 0)).1 ++ l, ((aget nm.data.toList s.fs).getD ([], 0)).2) fs).1) := by
          intro kq
          generalize hW : wc.drewN kq = W
          have hBW : Below w.heap.size w W := by rw [← hW]; exact below_drewN' hBc _
          have hkp : ∀ x : Nat, W.heap[x]? = wc.heap[x]? := fun x => by rw [← hW]; rfl
          have hPW : DkP W a mb ms s.most s.left.isSome lv s.down := by rw [hd, ← hW]; exact hPc.away (F := fun _ => False) (w' := wc.drewN _) ⟨rfl, rfl, rfl, Nat.le_refl _, fun _ _ _ => rfl⟩ (fun e => e) fun _ _ e => e
          have hIW : IsB W B n c l := by rw [← hW]; exact hIc.drewN _
          clear hW
          refine op_Append hwf hd hPW hlv hfs (Away.of_new hBW F) hfoot _ hwf2 ⟨fb, 0, none⟩ ⟨w.heap.size + 1 + 1, 0, none⟩ ⟨w.heap.size, 0, none⟩ ⟨w.heap.size + 1, 0, none⟩ fun W1 armed lv1 hP1 hA1 => ?_
          have k := fun (x : Nat) (o : Obj) (hx : wc.heap[x]? = some o) (hn : w.heap.size ≤ x) => box_keep ((hkp x).trans hx) hA1 (by omega)
          have h5 := atR_props hP1 nm.data.toList
          rw [HR0.out] at h5
          obtain ⟨hr5, hap5, hgf5, hrl5⟩ := h5
          have hrc : (aget nm.data.toList s.fs).getD ([], 0) = r.c := by rw [← HR0.out, hfs]; exact atR_c _ _
          refine (cl_append hP1 hnm (k _ _ bf (by omega)) (k _ _ hb2 (by omega)) (k _ _ hb0 (by omega)) (k _ _ hb1 (by omega)) (hIW.not_disk hPW hA1) hr5 hap5 (by omega) (by have := hwf.count; rw [hfs] at this; simp [amap] at this; omega) (by omega)).mono ?_
          rintro e W' ⟨rfl, r', hc', hg', hP', hA'⟩
          have hgG : ∀ b, r'.g = some b → F b ∨ w.heap.size ≤ b := fun b hb => by
            rcases hg' with e | e
            · rw [e] at hb
              exact .inl (hfoot b (.inr (hgf5 b hb)))
            · rw [e] at hb
              injection hb with hb
              have h1 := hA1.size
              have h2 := hBW.size
              exact .inr (by omega)
          refine ⟨rfl, _, ?_, hP', hA'.mono fun b _ e => ?_, foot_put (fun b hb => .inl (hfoot b hb)) hgG⟩
          · rw [amap_aput, hfs, hc', ← hfs, hrc]
          · rcases e with e | e | e | e
            · exact .inl (hfoot b (.inl e))
            · exact .inl (hfoot b (.inr (.inl e)))
            · exact .inl (hfoot b (.inr (hgf5 b e)))
            · exact .inr (by omega)
        clear hlv hfs hp hfoot hPc hIc bf hb0 hb1 hb2 hnn hwf2
        try clear hno
        go_wp2_with fail
        go_quiet (fail)
        go_wp2_with fail
        refine (HC.out _).mono ?_
        rintro e W' ⟨rfl, hT⟩
        go_wp2_with fail
        go_ret
        rw [HR.out]
        exact ⟨rfl, hT⟩
      | false =>
        have hno : aget nm.data.toList s.fs = none := by
          rw [hfs, aget_amap]
          have h2 := HTH.out
          cases hq : aget nm.data.toList ms with
          | none => rfl
          | some d => rw [hq] at h2; cases h2
        by_cases hL : ms.length = 200
        · have hL1 : ((ms.length : Int) == 200) = true := by simp; omega
          have hL2 : (ms.length : Int) = 200 := by omega
          have HR : Hid (s.append nm.data.toList l = (s, 5)) := by show _ = _; unfold St.append; rw [if_neg (by rw [hd]; simp), if_neg (by rw [hrt]; simp), if_pos (.inr ⟨hno, by rw [hlenc]; exact hL⟩)]
          clear hlv hfs hp hus
          go_wp2_with fail
          go_quiet (fail)
          go_wp2_with fail
          go_ret
          rw [HR.out]
          exact ⟨rfl, HS.out _ (below_drewN' hBc _)⟩
        · have hL1 : ((ms.length : Int) == 200) = false := beq_eq_false_iff_ne.2 (by omega)
          have hL2 : ¬ (ms.length : Int) = 200 := by omega
          have hnn : ¬ (s.most < s.used + l.length ∨ (aget nm.data.toList s.fs = none ∧ s.fs.length = 200)) := by
            rintro (h1 | ⟨_, h1⟩)
            · rw [hus] at h1; omega
            · rw [hlenc] at h1; exact hL h1
          have HR : Hid (s.append nm.data.toList l = s.op fun fs => aput nm.data.toList (((aget nm.data.toList s.fs).getD ([], 0)).1 ++ l, ((aget nm.data.toList s.fs).getD ([], 0)).2) fs) := by show _ = _; unfold St.append; rw [if_neg (by rw [hd]; simp), if_neg (by rw [hrt]; simp), if_neg hnn]
          have hwf2 : ({ s with fs := (fun fs => aput nm.data.toList (((aget nm.data.toList s.fs).getD ([], 0)).1 ++ l, ((aget nm.data.toList s.fs).getD ([], 0)).2) fs) s.fs } : St).wf := append_wf' hwf hrt hnn
          have HC : Hid (∀ kq : Nat, Calls Try.prog 63 #[.pointer (some ⟨a, 0, none⟩), .func (.func 64) #[] #[.pointer (some ⟨fb, 0, none⟩), .pointer (some ⟨w.heap.size + 1 + 1, 0, none⟩), .pointer (some ⟨w.heap.size, 0, none⟩), .pointer (some ⟨w.heap.size + 1, 0, none⟩)]] (wc.drewN kq) fun e W' =>
              e = .returned (.int .i64 ((s.op fun fs => aput nm.data.toList (((aget nm.data.toList s.fs).getD ([], 0)).1 ++ l, ((aget nm.data.toList s.fs).getD ([], 0)).2) fs).2 : Int)) ∧ Turned w F a W' (s.op fun fs => aput nm.data.toList (((aget nm.data.toList s.fs).getD ([], 0)).1 ++ l, ((aget nm.data.toList s.fs).getD ([], 0)).2) fs).1) := by
            intro kq
            generalize hW : wc.drewN kq = W
            have hBW : Below w.heap.size w W := by rw [← hW]; exact below_drewN' hBc _
            have hkp : ∀ x : Nat, W.heap[x]? = wc.heap[x]? := fun x => by rw [← hW]; rfl
            have hPW : DkP W a mb ms s.most s.left.isSome lv s.down := by rw [hd, ← hW]; exact hPc.away (F := fun _ => False) (w' := wc.drewN _) ⟨rfl, rfl, rfl, Nat.le_refl _, fun _ _ _ => rfl⟩ (fun e => e) fun _ _ e => e
            have hIW : IsB W B n c l := by rw [← hW]; exact hIc.drewN _
            clear hW
            refine op_Append hwf hd hPW hlv hfs (Away.of_new hBW F) hfoot _ hwf2 ⟨fb, 0, none⟩ ⟨w.heap.size + 1 + 1, 0, none⟩ ⟨w.heap.size, 0, none⟩ ⟨w.heap.size + 1, 0, none⟩ fun W1 armed lv1 hP1 hA1 => ?_
            have k := fun (x : Nat) (o : Obj) (hx : wc.heap[x]? = some o) (hn : w.heap.size ≤ x) => box_keep ((hkp x).trans hx) hA1 (by omega)
            have h5 := atR_props hP1 nm.data.toList
            rw [HR0.out] at h5
            obtain ⟨hr5, hap5, hgf5, hrl5⟩ := h5
            have hrc : (aget nm.data.toList s.fs).getD ([], 0) = r.c := by rw [← HR0.out, hfs]; exact atR_c _ _
            refine (cl_append hP1 hnm (k _ _ bf (by omega)) (k _ _ hb2 (by omega)) (k _ _ hb0 (by omega)) (k _ _ hb1 (by omega)) (hIW.not_disk hPW hA1) hr5 hap5 (by omega) (by have := hwf.count; rw [hfs] at this; simp [amap] at this; omega) (by omega)).mono ?_
            rintro e W' ⟨rfl, r', hc', hg', hP', hA'⟩
            have hgG : ∀ b, r'.g = some b → F b ∨ w.heap.size ≤ b := fun b hb => by
              rcases hg' with e | e
              · rw [e] at hb
                exact .inl (hfoot b (.inr (hgf5 b hb)))
              · rw [e] at hb
                injection hb with hb
                have h1 := hA1.size
                have h2 := hBW.size
                exact .inr (by omega)
            refine ⟨rfl, _, ?_, hP', hA'.mono fun b _ e => ?_, foot_put (fun b hb => .inl (hfoot b hb)) hgG⟩
            · rw [amap_aput, hfs, hc', ← hfs, hrc]
            · rcases e with e | e | e | e
              · exact .inl (hfoot b (.inl e))
              · exact .inl (hfoot b (.inr (.inl e)))
              · exact .inl (hfoot b (.inr (hgf5 b e)))
              · exact .inr (by omega)
          clear hlv hfs hp hfoot hPc hIc bf hb0 hb1 hb2 hnn hwf2
          try clear hno
          go_wp2_with fail
          go_quiet (fail)
          go_wp2_with fail
          refine (HC.out _).mono ?_
          rintro e W' ⟨rfl, hT⟩
          go_wp2_with fail
          go_ret
          rw [HR.out]
          exact ⟨rfl, hT⟩
end Go.Proofs.Ytebpdlggkncliaa
