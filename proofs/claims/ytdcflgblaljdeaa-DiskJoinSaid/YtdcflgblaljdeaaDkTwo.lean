/-
  Two disks of a law's own: they lie apart; two with the same files are alike; two behind the same calls.
-/
import Derived.Test.YtdcflgblaljdeaaDkApart
set_option linter.unusedVariables false
set_option linter.unusedSimpArgs false
namespace Go.Proofs.Ytdcflgblaljdeaa
open Go.RowKit Go.Maps

structure Two (w0 w : World) (a : Nat) (s : St) (b : Nat) (t : St) (F G : Nat → Prop) : Prop where
  one : Dk w F a s
  two : Dk w G b t
  apart : ∀ x, F x → ¬ G x
  new1 : ∀ x, F x → w0.heap.size ≤ x
  new2 : ∀ x, G x → w0.heap.size ≤ x
  bel : Below w0.heap.size w0 w
theorem Two.swap {w0 w : World} {a : Nat} {s : St} {b : Nat} {t : St} {F G : Nat → Prop} (h : Two w0 w a s b t F G) : Two w0 w b t a s G F :=
  ⟨h.two, h.one, fun x g f => h.apart x f g, h.new2, h.new1, h.bel⟩
theorem Two.below {w0 w w' : World} {a : Nat} {s : St} {b : Nat} {t : St} {F G : Nat → Prop} (h : Two w0 w a s b t F G) (hb : Below w.heap.size w w') : Two w0 w' a s b t F G :=
  ⟨h.one.below hb, h.two.below hb, h.apart, h.new1, h.new2, bst h.bel hb⟩
/-- the one turned -/
theorem Two.turned {w0 w w' : World} {a : Nat} {s s' : St} {b : Nat} {t : St} {F G : Nat → Prop} (h : Two w0 w a s b t F G) (ht : Turned w F a w' s') : ∃ F', Two w0 w' a s' b t F' G := by
  have hS := sess_turned h.new1 h.bel ht
  obtain ⟨F', hd, ha, hF⟩ := ht
  refine ⟨F', hd, h.two.away ha fun x g f => h.apart x f g, fun x f g => ?_, fun x f => ?_, h.new2, hS.bel⟩
  · rcases hF x f with e | e
    · exact h.apart x e g
    · have := h.two.2.1 x g
      omega
  · rcases hF x f with e | e
    · exact h.new1 x e
    · exact Nat.le_trans h.bel.size e

section
variable {w : World} {F : Nat → Prop} {a : Nat} {s : St}
theorem d_list (h : Dk w F a s) : Calls Try.prog 27 #[.pointer (some ⟨a, 0, none⟩)] w fun e w' =>
    ∃ A c, e = .returned (.slice A s.fs.length c) ∧ IsN w' A s.fs.length c (s.fs.map (·.1)) ∧ Below w.heap.size w w' := by
  refine (list_any h).mono ?_
  rintro e w' ⟨v, rfl, hn, hb⟩
  obtain ⟨A, c, rfl, _⟩ := hn.at_
  rw [List.length_map] at hn ⊢
  exact ⟨A, c, rfl, hn.isN, hb⟩
/-- a name in the list is short -/
theorem name_short (h : s.wf) {j : Nat} {x : Nm} (hx : (s.fs.map (·.1))[j]? = some x) : x.length ≤ 40 := by
  obtain ⟨p, hp, rfl⟩ := List.mem_map.1 (List.mem_of_getElem? hx)
  have := h.names p hp
  unfold rightN at this
  simp at this
  exact this.1.2
theorem name_there (h : s.wf) {j : Nat} {x : Nm} (hx : (s.fs.map (·.1))[j]? = some x) : ∃ c, aget x s.fs = some c ∧ c.2 ≤ c.1.length := by
  obtain ⟨p, hp, rfl⟩ := List.mem_map.1 (List.mem_of_getElem? hx)
  exact ⟨p.2, (aget_some h.rise).2 hp, h.safe p hp⟩
end

set_option maxRecDepth 100000 in
set_option maxHeartbeats 2000000 in
/-- two disks with the same files are alike -/
theorem alike_any {w : World} {F G : Nat → Prop} {a b : Nat} {s t : St} (hD : Dk w F a s) (hG : Dk w G b t) (hfs : t.fs = s.fs) (hdn : t.down = s.down) :
    Calls Try.prog 49 #[.pointer (some ⟨a, 0, none⟩), .pointer (some ⟨b, 0, none⟩)] w fun e w' => e = .returned (.bool true) ∧ Below w.heap.size w w' := by
  have hw := hD.1
  have hcnt := hw.count
  have HF := Lib.hid hfs
  have HDn := Lib.hid hdn
  have HU : Hid (t.used = s.used) := by show _ = _; unfold St.used; rw [hfs]
  clear hfs hdn
  go_enter Try.func49, Try.ntmps49
  go_wp2_with fail
  refine (d_list hD).mono ?_
  rintro e w1 ⟨A1, c1, rfl, hN1, hb1⟩
  have hD1 := hD.below hb1
  have hG1 := hG.below hb1
  go_wp2_with fail
  refine (d_list hG1).mono ?_
  rintro e w2 ⟨A2, c2, rfl, hN2, hb2⟩
  rw [HF.out] at hN2 ⊢
  have hN3 := hN1.below hb2
  have hD2 := hD1.below hb2
  have hG2 := hG1.below hb2
  have hB2 := bst hb1 hb2
  clear hD hG hN1 hD1 hG1 hb1 hb2
  have hcap := hN3.cap
  generalize hnn : s.fs.length = nn at *
  have HNN := Lib.hid hnn
  clear hnn
  go_wp2_with fail
  refine (sametexts_any hN3 hN2 (by unfold maxLen; omega) (by unfold maxLen; omega)).mono ?_
  rintro e w3 ⟨rfl, hb3⟩
  rw [decide_eq_true rfl]
  replace hN3 := hN3.below hb3
  have hD3 := hD2.below hb3
  have hG3 := hG2.below hb3
  have hB3 := bst hB2 hb3
  clear hN2 hD2 hG2 hB2 hb3
  go_wp2_with fail
  refine (down_any hD3).mono ?_
  rintro e w4 ⟨rfl, rfl⟩
  go_wp2_with fail
  refine (down_any hG3).mono ?_
  rintro e w4 ⟨rfl, rfl⟩
  rw [HDn.out]
  generalize hdd : s.down = dd
  clear hdd
  have hdd : (dd == dd) = true := by simp
  go_wp2_with fail
  refine (used_any hD3).mono ?_
  rintro e w4 ⟨rfl, rfl⟩
  go_wp2_with fail
  refine (used_any hG3).mono ?_
  rintro e w4 ⟨rfl, rfl⟩
  rw [HU.out]
  generalize s.used = uu
  go_wp2_with fail
  go_loopw [6] (fun q wr => ∃ j : Nat, q = .int .i64 (j : Int) ∧ j ≤ nn ∧ Dk wr F a s ∧ Dk wr G b t ∧ IsN wr A1 nn c1 (s.fs.map (·.1)) ∧ Below w.heap.size w wr) (fun q _ => nn - (intOf q).toNat)
  case atStart => exact ⟨0, rfl, by omega, hD3, hG3, hN3, hB3⟩
  case round =>
    clear hD3 hG3 hN3 hB3
    obtain ⟨j, rfl, hj, hD, hG, hN, hB⟩ := hrel
    by_cases hjn : j < nn
    · obtain ⟨bl, o, x, rfl, hx, x0⟩ := hN.at_ hjn
      have hxs := name_short hw hx
      have hd : decide ((j : Int) < (nn : Int)) = true := decide_eq_true (by omega)
      obtain ⟨sx, hsx⟩ : ∃ v : ByteArray, v = ⟨x.toArray⟩ := ⟨_, rfl⟩
      rw [← hsx] at x0
      have hsz : sx.size ≤ maxLen := by rw [hsx]; show x.toArray.size ≤ _; unfold maxLen; simp; omega
      obtain ⟨⟨l, er⟩, hr⟩ : ∃ p, s.read sx.data.toList = p := ⟨_, rfl⟩
      have HR := Lib.hid hr
      have HR2 := Lib.hid ((read_like HDn.out (by rw [HF.out])).trans hr)
      obtain ⟨m, hm⟩ : ∃ m, ((aget sx.data.toList s.fs).getD ([], 0)).2 = m := ⟨_, rfl⟩
      have HM := Lib.hid hm
      clear hr hm hsx hx hxs
      go_wp2_with fail
      refine (d_read hD sx hsz HR.out).mono ?_
      rintro e w4 ⟨A4, n4, c4, rfl, hI4, _, hb4⟩
      have x1 := cell_below hb4 _ _ x0
      have hD4 := hD.below hb4
      have hG4 := hG.below hb4
      have hN4 := hN.below hb4
      have hB4 := bst hB hb4
      clear hD hG hN hB hb4 x0
      go_wp2_with fail
      refine (d_read hG4 sx hsz HR2.out).mono ?_
      rintro e w5 ⟨A5, n5, c5, rfl, hI5, _, hb5⟩
      have x0 := cell_below (hb5.drew) _ _ x1
      have hI4' := (hI4.below hb5).below ((Below.refl _ w5).drew)
      have hI5' := hI5.below ((Below.refl _ w5).drew)
      have hD5 := hD4.below hb5.drew
      have hG5 := hG4.below hb5.drew
      have hN5 := hN4.below hb5.drew
      have hB5 := bst hB4 hb5.drew
      clear hD4 hG4 hN4 hB4 hb5 x1 hI4 hI5
      have dr : decide ((j : Int) < (nn : Int)) = true := hd
      have g0 : decide ((0 : Int) ≤ (j : Int)) = true := by simp
      go_wp2_with fail
      refine wp_region_held_drew (S := fun w' => Below w5.drew.heap.size w5.drew w') (by kernel_rfl) (Below.refl _ _) (fun hHeld => ?_)
      refine wpAnyH_take (i := 0) (v := ?_) rfl (by kernel_rfl) (by kernel_rfl) (by kernel_rfl) (fun _ _ _ h => h) (Or.inl ⟨by rfl, ?_⟩) hHeld ?_
      rotate_left
      · (intro w hSw; (try dsimp only at hSw); go_simp <;> rfl)
      simp only [Act.put, List.getElem_toArray, List.getElem_cons_zero, List.getElem_cons_succ, List.setIfInBounds_toArray, List.set_cons_zero, List.set_cons_succ]
      refine wpAnyH_take (i := 1) (v := ?_) rfl (by kernel_rfl) (by kernel_rfl) (by kernel_rfl) (fun _ _ _ h => h) (Or.inl ⟨by rfl, ?_⟩) hHeld ?_
      rotate_left
      · (intro w hSw; (try dsimp only at hSw); go_simp <;> rfl)
      simp only [Act.put, List.getElem_toArray, List.getElem_cons_zero, List.getElem_cons_succ, List.setIfInBounds_toArray, List.set_cons_zero, List.set_cons_succ]
      refine wpAnyH_take (i := 2) (v := ?_) rfl (by kernel_rfl) (by kernel_rfl) (by kernel_rfl) (fun _ _ _ h => h) (Or.inl ⟨by rfl, ?_⟩) hHeld ?_
      rotate_left
      · (intro w hSw; (try dsimp only at hSw); go_simp <;> rfl)
      simp only [Act.put, List.getElem_toArray, List.getElem_cons_zero, List.getElem_cons_succ, List.setIfInBounds_toArray, List.set_cons_zero, List.set_cons_succ]
      refine wpAnyH_take (i := 3) (v := ?_) rfl (by kernel_rfl) (by kernel_rfl) (by kernel_rfl) (fun _ _ _ h => h) (Or.inl ⟨by rfl, ?_⟩) hHeld ?_
      rotate_left
      · (intro w hSw; (try dsimp only at hSw); go_simp <;> rfl)
      simp only [Act.put, List.getElem_toArray, List.getElem_cons_zero, List.getElem_cons_succ, List.setIfInBounds_toArray, List.set_cons_zero, List.set_cons_succ]
      refine wpAnyH_take (i := 4) (v := ?_) rfl (by kernel_rfl) (by kernel_rfl) (by kernel_rfl) (fun _ _ _ h => h) (Or.inl ⟨by rfl, ?_⟩) hHeld ?_
      rotate_left
      · (intro w hSw; (try dsimp only at hSw); go_simp <;> rfl)
      simp only [Act.put, List.getElem_toArray, List.getElem_cons_zero, List.getElem_cons_succ, List.setIfInBounds_toArray, List.set_cons_zero, List.set_cons_succ]
      refine wpAnyH_take (i := 5) (v := ?_) rfl (by kernel_rfl) (by kernel_rfl) (by kernel_rfl) (fun _ _ _ h => h) (Or.inl ⟨by rfl, ?_⟩) hHeld ?_
      rotate_left
      · (intro w hSw; (try dsimp only at hSw); go_simp <;> rfl)
      simp only [Act.put, List.getElem_toArray, List.getElem_cons_zero, List.getElem_cons_succ, List.setIfInBounds_toArray, List.set_cons_zero, List.set_cons_succ]
      refine wpAnyH_ready (rs := [6]) (by kernel_rfl) (by simp) ?_
      refine AllReadyH.cons rfl (fun K hK => ?_) AllReadyH.nil
      go_simp
      refine (samebytes_any hI4' hI5').mono ?_
      rintro ex wn ⟨rfl, rfl⟩
      rw [decide_eq_true rfl]
      dsimp only
      refine hK.out _ _ (Below.refl _ _) (fun hHeld => ?_)
      clear hK K
      try simp only [Act.put, List.getElem_toArray, List.getElem_cons_zero, List.getElem_cons_succ, List.setIfInBounds_toArray, List.set_cons_zero, List.set_cons_succ]
      refine wpAnyH_take (i := 7) (v := ?_) rfl (by kernel_rfl) (by kernel_rfl) (by kernel_rfl) (fun _ _ _ h => h) (Or.inl ⟨by rfl, ?_⟩) hHeld ?_
      rotate_left
      · (intro w hSw; (try dsimp only at hSw); go_simp <;> rfl)
      simp only [Act.put, List.getElem_toArray, List.getElem_cons_zero, List.getElem_cons_succ, List.setIfInBounds_toArray, List.set_cons_zero, List.set_cons_succ]
      refine wpAnyH_take (i := 8) (v := ?_) rfl (by kernel_rfl) (by kernel_rfl) (by kernel_rfl) (fun _ _ _ h => h) (Or.inl ⟨by rfl, ?_⟩) hHeld ?_
      rotate_left
      · (intro w hSw; (try dsimp only at hSw); go_simp <;> rfl)
      simp only [Act.put, List.getElem_toArray, List.getElem_cons_zero, List.getElem_cons_succ, List.setIfInBounds_toArray, List.set_cons_zero, List.set_cons_succ]
      refine wpAnyH_take (i := 9) (v := ?_) rfl (by kernel_rfl) (by kernel_rfl) (by kernel_rfl) (fun _ _ _ h => h) (Or.inl ⟨by rfl, ?_⟩) hHeld ?_
      rotate_left
      · (intro w hSw; (try dsimp only at hSw); go_simp <;> rfl)
      simp only [Act.put, List.getElem_toArray, List.getElem_cons_zero, List.getElem_cons_succ, List.setIfInBounds_toArray, List.set_cons_zero, List.set_cons_succ]
      refine wpAnyH_take (i := 10) (v := ?_) rfl (by kernel_rfl) (by kernel_rfl) (by kernel_rfl) (fun _ _ _ h => h) (Or.inl ⟨by rfl, ?_⟩) hHeld ?_
      rotate_left
      · (intro w hSw; (try dsimp only at hSw); go_simp <;> rfl)
      simp only [Act.put, List.getElem_toArray, List.getElem_cons_zero, List.getElem_cons_succ, List.setIfInBounds_toArray, List.set_cons_zero, List.set_cons_succ]
      refine wpAnyH_take (i := 11) (v := ?_) rfl (by kernel_rfl) (by kernel_rfl) (by kernel_rfl) (fun _ _ _ h => h) (Or.inl ⟨by rfl, ?_⟩) hHeld ?_
      rotate_left
      · (intro w hSw; (try dsimp only at hSw); go_simp <;> rfl)
      simp only [Act.put, List.getElem_toArray, List.getElem_cons_zero, List.getElem_cons_succ, List.setIfInBounds_toArray, List.set_cons_zero, List.set_cons_succ]
      refine wpAnyH_take (i := 12) (v := ?_) rfl (by kernel_rfl) (by kernel_rfl) (by kernel_rfl) (fun _ _ _ h => h) (Or.inl ⟨by rfl, ?_⟩) hHeld ?_
      rotate_left
      · (intro w hSw; (try dsimp only at hSw); go_simp <;> rfl)
      simp only [Act.put, List.getElem_toArray, List.getElem_cons_zero, List.getElem_cons_succ, List.setIfInBounds_toArray, List.set_cons_zero, List.set_cons_succ]
      refine wpAnyH_take (i := 13) (v := ?_) rfl (by kernel_rfl) (by kernel_rfl) (by kernel_rfl) (fun _ _ _ h => h) (Or.inl ⟨by rfl, ?_⟩) hHeld ?_
      rotate_left
      · (intro w hSw; (try dsimp only at hSw); go_simp <;> rfl)
      simp only [Act.put, List.getElem_toArray, List.getElem_cons_zero, List.getElem_cons_succ, List.setIfInBounds_toArray, List.set_cons_zero, List.set_cons_succ]
      refine wpAnyH_take (i := 14) (v := ?_) rfl (by kernel_rfl) (by kernel_rfl) (by kernel_rfl) (fun _ _ _ h => h) (Or.inl ⟨by rfl, ?_⟩) hHeld ?_
      rotate_left
      · (intro w hSw; have x1 := cell_below hSw _ _ x0; go_simp <;> rfl)
      simp only [Act.put, List.getElem_toArray, List.getElem_cons_zero, List.getElem_cons_succ, List.setIfInBounds_toArray, List.set_cons_zero, List.set_cons_succ]
      refine wpAnyH_take (i := 16) (v := ?_) rfl (by kernel_rfl) (by kernel_rfl) (by kernel_rfl) (fun _ _ _ h => h) (Or.inl ⟨by rfl, ?_⟩) hHeld ?_
      rotate_left
      · (intro w hSw; (try dsimp only at hSw); go_simp <;> rfl)
      simp only [Act.put, List.getElem_toArray, List.getElem_cons_zero, List.getElem_cons_succ, List.setIfInBounds_toArray, List.set_cons_zero, List.set_cons_succ]
      refine wpAnyH_take (i := 17) (v := ?_) rfl (by kernel_rfl) (by kernel_rfl) (by kernel_rfl) (fun _ _ _ h => h) (Or.inl ⟨by rfl, ?_⟩) hHeld ?_
      rotate_left
      · (intro w hSw; (try dsimp only at hSw); go_simp <;> rfl)
      simp only [Act.put, List.getElem_toArray, List.getElem_cons_zero, List.getElem_cons_succ, List.setIfInBounds_toArray, List.set_cons_zero, List.set_cons_succ]
      refine wpAnyH_take (i := 18) (v := ?_) rfl (by kernel_rfl) (by kernel_rfl) (by kernel_rfl) (fun _ _ _ h => h) (Or.inl ⟨by rfl, ?_⟩) hHeld ?_
      rotate_left
      · (intro w hSw; (try dsimp only at hSw); go_simp <;> rfl)
      simp only [Act.put, List.getElem_toArray, List.getElem_cons_zero, List.getElem_cons_succ, List.setIfInBounds_toArray, List.set_cons_zero, List.set_cons_succ]
      refine wpAnyH_take (i := 19) (v := ?_) rfl (by kernel_rfl) (by kernel_rfl) (by kernel_rfl) (fun _ _ _ h => h) (Or.inl ⟨by rfl, ?_⟩) hHeld ?_
      rotate_left
      · (intro w hSw; (try dsimp only at hSw); go_simp <;> rfl)
      simp only [Act.put, List.getElem_toArray, List.getElem_cons_zero, List.getElem_cons_succ, List.setIfInBounds_toArray, List.set_cons_zero, List.set_cons_succ]
      refine wpAnyH_take (i := 20) (v := ?_) rfl (by kernel_rfl) (by kernel_rfl) (by kernel_rfl) (fun _ _ _ h => h) (Or.inl ⟨by rfl, ?_⟩) hHeld ?_
      rotate_left
      · (intro w hSw; have x1 := cell_below hSw _ _ x0; go_simp <;> rfl)
      simp only [Act.put, List.getElem_toArray, List.getElem_cons_zero, List.getElem_cons_succ, List.setIfInBounds_toArray, List.set_cons_zero, List.set_cons_succ]
      refine wpAnyH_ready (rs := [15]) (by kernel_rfl) (by simp) ?_
      refine AllReadyH.cons rfl (fun K hK => ?_) AllReadyH.nil
      go_simp
      refine (synced_any hD5 sx hsz).mono ?_
      rintro ex wn ⟨rfl, rfl⟩
      rw [HM.out]
      dsimp only
      refine hK.out _ _ (Below.refl _ _) (fun hHeld => ?_)
      clear hK K
      try simp only [Act.put, List.getElem_toArray, List.getElem_cons_zero, List.getElem_cons_succ, List.setIfInBounds_toArray, List.set_cons_zero, List.set_cons_succ]
      refine wpAnyH_ready (rs := [21]) (by kernel_rfl) (by simp) ?_
      refine AllReadyH.cons rfl (fun K hK => ?_) AllReadyH.nil
      go_simp
      refine (synced_any hG5 sx hsz).mono ?_
      rintro ex wn ⟨rfl, rfl⟩
      rw [HF.out, HM.out]
      dsimp only
      refine hK.out _ _ (Below.refl _ _) (fun hHeld => ?_)
      clear hK K
      try simp only [Act.put, List.getElem_toArray, List.getElem_cons_zero, List.getElem_cons_succ, List.setIfInBounds_toArray, List.set_cons_zero, List.set_cons_succ]
      refine wpAnyH_take (i := 22) (v := ?_) rfl (by kernel_rfl) (by kernel_rfl) (by kernel_rfl) (fun _ _ _ h => h) (Or.inl ⟨by rfl, ?_⟩) hHeld ?_
      rotate_left
      · (intro w hSw; (try dsimp only at hSw); go_simp <;> rfl)
      simp only [Act.put, List.getElem_toArray, List.getElem_cons_zero, List.getElem_cons_succ, List.setIfInBounds_toArray, List.set_cons_zero, List.set_cons_succ]
      refine wpAnyH_take (i := 23) (v := ?_) rfl (by kernel_rfl) (by kernel_rfl) (by kernel_rfl) (fun _ _ _ h => h) (Or.inl ⟨by rfl, ?_⟩) hHeld ?_
      rotate_left
      · (intro w hSw; (try dsimp only at hSw); go_simp <;> rfl)
      simp only [Act.put, List.getElem_toArray, List.getElem_cons_zero, List.getElem_cons_succ, List.setIfInBounds_toArray, List.set_cons_zero, List.set_cons_succ]
      refine wpAnyH_done (by kernel_rfl) ?_ _
      clear hHeld
      go_wp2_with fail
      go_roundw
      case rel => exact ⟨j + 1, by go_num, by omega, hD5, hG5, hN5, hB5⟩
      case measure => simp [intOf]; omega
    · obtain rfl : j = nn := by omega
      have hd : decide ((j : Int) < (j : Int)) = false := by simp
      go_wp2_with fail
      go_ret
      exact ⟨rfl, hB⟩
end Go.Proofs.Ytdcflgblaljdeaa
