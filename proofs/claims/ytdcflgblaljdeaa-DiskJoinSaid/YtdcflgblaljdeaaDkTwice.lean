/-
  DiskTwice: behind a crash all is synced, and the power is there; another crash changes nothing, whatever it keeps.
-/
import Derived.Test.YtdcflgblaljdeaaDkPlayed
set_option linter.unusedVariables false
set_option linter.unusedSimpArgs false
namespace Go.Proofs.Ytdcflgblaljdeaa
open Go.RowKit Go.Maps

theorem crashed_at {ks : List Int} {fs : List (Nm × Fc)} (hs : ∀ p ∈ fs, p.2.2 ≤ p.2.1.length) : ∀ p ∈ crashed ks fs, p.2.2 = p.2.1.length := by
  intro p hp
  obtain ⟨i, hi, e⟩ := List.getElem_of_mem hp
  have hi' : i < fs.length := by simpa [crashed] using hi
  have := kept_le (hs fs[i] (List.getElem_mem hi')) ks i
  rw [← e]
  simp [crashed]
  omega
theorem crashed_same {ks : List Int} {fs : List (Nm × Fc)} (hs : ∀ p ∈ fs, p.2.2 = p.2.1.length) : crashed ks fs = fs := by
  apply List.ext_getElem
  · simp [crashed]
  · intro i h1 h2
    have := hs fs[i] (List.getElem_mem h2)
    simp only [crashed, List.getElem_mapIdx]
    have hk : kept fs[i].2 ks i = fs[i].2.2 := by unfold kept; omega
    rw [hk]
    have ht : fs[i].2.1.take fs[i].2.2 = fs[i].2.1 := List.take_of_length_le (by omega)
    rw [ht]
theorem crash_again {s : St} (hw : s.wf) (k1 k2 : List Int) : (s.crash k1).crash k2 = s.crash k1 := by
  unfold St.crash
  dsimp only
  rw [crashed_same (crashed_at hw.safe)]
theorem crash_safe {s : St} (hw : s.wf) (ks : List Int) (k : Nm) : ((aget k (s.crash ks).fs).getD ([], 0)).1.length = ((aget k (s.crash ks).fs).getD ([], 0)).2 := by
  cases hg : aget k (s.crash ks).fs with
  | none => rfl
  | some c => exact (crashed_at hw.safe _ (aget_mem hg)).symm
theorem IsI.belowI {w w' : World} {A : Option Addr} {n c : Nat} {zs : List Int} (h : IsI w A n c zs) (hb : Below w.heap.size w w') : IsI w' A n c zs :=
  h.away (Away.of_new hb (fun _ => False)) fun _ _ f => f
theorem IsI.old {w : World} {A : Option Addr} {n c : Nat} {zs : List Int} (h : IsI w A n c zs) : ∀ ad, A = some ad → zs ≠ [] → ad.block < w.heap.size := by
  intro ad hA hne
  rcases h.src with h0 | ⟨b, o, hA', hc⟩
  · exact absurd h0 hne
  · rw [hA] at hA'
    cases hA'
    cases hk : zs with
    | nil => exact absurd hk hne
    | cons z r => exact block_lt_of_cell (hc 0 z (by rw [hk]; rfl))
theorem two_crash {w0 w : World} {a : Nat} {s : St} {b : Nat} {t : St} {F G : Nat → Prop} (h : Two w0 w a s b t F G) {A : Option Addr} {n c : Nat} {ks : List Int} (hI : IsI w0 A n c ks) (hn : n ≤ maxLen) {s' : St} (hs : s.crash ks = s') :
    Calls Try.prog 29 #[.pointer (some ⟨a, 0, none⟩), .slice A n c] w fun e w' => e = .returned (.tuple #[]) ∧ ∃ F', Two w0 w' a s' b t F' G := by
  refine (crash_any h.one (hI.belowI h.bel) hn fun ad hA hne hF => ?_).mono ?_
  · have := h.new1 _ hF
    have := hI.old ad hA hne
    omega
  · rintro e w' ⟨rfl, ht⟩
    rw [hs] at ht
    exact ⟨rfl, h.turned ht⟩
theorem two_crash2 {w0 w : World} {a : Nat} {s : St} {b : Nat} {t : St} {F G : Nat → Prop} (h : Two w0 w a s b t F G) {A : Option Addr} {n c : Nat} {ks : List Int} (hI : IsI w0 A n c ks) (hn : n ≤ maxLen) {t' : St} (hs : t.crash ks = t') :
    Calls Try.prog 29 #[.pointer (some ⟨b, 0, none⟩), .slice A n c] w fun e w' => e = .returned (.tuple #[]) ∧ ∃ G', Two w0 w' a s b t' F G' := by
  refine (two_crash h.swap hI hn hs).mono ?_
  rintro e w' ⟨rfl, G', h'⟩
  exact ⟨rfl, G', h'.swap⟩

set_option maxRecDepth 100000 in
set_option maxHeartbeats 2000000 in
theorem twice_walk (w : World) (A : Option Addr) (n c : Nat) (xs : List OpC) (h : IsL 6 (fun cs x => cs = x.cells ∧ x.ok w) w A n c xs) (A1 : Option Addr) (n1 c1 : Nat) (k1 : List Int) (h1 : IsI w A1 n1 c1 k1) (hn1 : n1 ≤ maxLen) (A2 : Option Addr) (n2 c2 : Nat) (k2 : List Int) (h2 : IsI w A2 n2 c2 k2) (hn2 : n2 ≤ maxLen) :
    Calls Try.prog 8 #[.slice A n c, .slice A1 n1 c1, .slice A2 n2 c2] w fun e w' => e = .returned (.bool true) ∧ Below w.heap.size w w' := by
  have hn1' := hn1
  have hn2' := hn2
  unfold maxLen at hn1' hn2'
  by_cases l1 : 300 < n1
  · have d1 : decide ((300 : Int) < (n1 : Int)) = true := decide_eq_true (by omega)
    go_enter Try.func8, Try.ntmps8
    go_wp2_with fail
    refine (awake2_any _).mono ?_
    rintro e w9 ⟨rfl, hb9⟩
    go_wp2_with fail
    go_ret
    exact ⟨rfl, hb9⟩
  have d1 : decide ((300 : Int) < (n1 : Int)) = false := decide_eq_false (by omega)
  by_cases l2 : 300 < n2
  · have d2 : decide ((300 : Int) < (n2 : Int)) = true := decide_eq_true (by omega)
    go_enter Try.func8, Try.ntmps8
    go_wp2_with fail
    refine (awake2_any _).mono ?_
    rintro e w9 ⟨rfl, hb9⟩
    go_wp2_with fail
    go_ret
    exact ⟨rfl, hb9⟩
  have d2 : decide ((300 : Int) < (n2 : Int)) = false := decide_eq_false (by omega)
  go_enter Try.func8, Try.ntmps8
  go_wp2_with fail
  refine (played_any w 1000 (by omega) A n c xs h).mono ?_
  rintro e w1 ⟨a, b, rfl, s, F, G, hT⟩
  have hw := hT.one.1
  go_wp2_with fail
  refine (two_crash hT h1 hn1 rfl).mono ?_
  rintro e w2 ⟨rfl, F2, hT2⟩
  clear hT
  go_wp2_with fail
  refine (two_crash2 hT2 h1 hn1 rfl).mono ?_
  rintro e w3 ⟨rfl, G3, hT3⟩
  clear hT2
  go_wp2_with fail
  refine (two_crash2 hT3 h2 hn2 (crash_again hw k1 k2)).mono ?_
  rintro e w4 ⟨rfl, G4, hT4⟩
  clear hT3 h1 h2
  have hsafe := fun k => crash_safe hw k1 k
  have hdn : Hid ((s.crash k1).down = false) := rfl
  generalize s.crash k1 = z at hT4 hsafe hdn
  clear hw
  have hw := hT4.one.1
  have hcnt := hw.count
  go_wp2_with fail
  refine (d_list hT4.one).mono ?_
  rintro e w5 ⟨A5, c5, rfl, hN5, hb5⟩
  have hT5 := hT4.below hb5
  clear hT4 hb5
  have hcap := hN5.cap
  generalize hnn : z.fs.length = nn at *
  have HNN := Lib.hid hnn
  clear hnn
  go_wp2_with fail
  go_loopw [10] (fun q wr => ∃ j : Nat, q = .int .i64 (j : Int) ∧ j ≤ nn ∧ Two w wr a z b z F2 G4 ∧ IsN wr A5 nn c5 (z.fs.map (·.1))) (fun q _ => nn - (intOf q).toNat)
  case atStart => exact ⟨0, rfl, by omega, hT5, hN5⟩
  case round =>
    clear hT5 hN5
    obtain ⟨j, rfl, hj, hT, hN⟩ := hrel
    by_cases hjn : j < nn
    · obtain ⟨bl, o, x, rfl, hx, x0⟩ := hN.at_ hjn
      have hxs := name_short hw hx
      have hd : decide ((j : Int) < (nn : Int)) = true := decide_eq_true (by omega)
      obtain ⟨sx, hsx⟩ : ∃ v : ByteArray, v = ⟨x.toArray⟩ := ⟨_, rfl⟩
      rw [← hsx] at x0
      have hsz : sx.size ≤ maxLen := by rw [hsx]; show x.toArray.size ≤ _; unfold maxLen; simp; omega
      obtain ⟨m, hm⟩ : ∃ m, ((aget sx.data.toList z.fs).getD ([], 0)).2 = m := ⟨_, rfl⟩
      have HM := Lib.hid hm
      have HL := Lib.hid ((hsafe sx.data.toList).trans hm)
      clear hm hsx hx hxs
      have x0 := cell_below ((Below.refl _ wr).drew) _ _ x0
      have hT6 := hT.below ((Below.refl _ wr).drew)
      have hN6 := hN.below ((Below.refl _ wr).drew)
      clear hT hN
      go_wp2_with fail
      refine wp_region_held_drew (S := fun w' => Below wr.drew.heap.size wr.drew w') (by kernel_rfl) (Below.refl _ _) (fun hHeld => ?_)
      refine wpAnyH_take (i := 0) (v := ?_) rfl (by kernel_rfl) (by kernel_rfl) (by kernel_rfl) (fun _ _ _ h => h) (Or.inl ⟨by rfl, ?_⟩) hHeld ?_
      rotate_left
      · (intro w hSw; (try dsimp only at hSw); go_simp <;> rfl)
      simp only [Act.put, List.getElem_toArray, List.getElem_cons_zero, List.getElem_cons_succ, List.setIfInBounds_toArray, List.set_cons_zero, List.set_cons_succ]
      refine wpAnyH_take (i := 1) (v := ?_) rfl (by kernel_rfl) (by kernel_rfl) (by kernel_rfl) (fun _ _ _ h => h) (Or.inl ⟨by rfl, ?_⟩) hHeld ?_
      rotate_left
      · (intro w hSw; (try dsimp only at hSw); go_simp <;> rfl)
      simp only [Act.put, List.getElem_toArray, List.getElem_cons_zero, List.getElem_cons_succ, List.setIfInBounds_toArray, List.set_cons_zero, List.set_cons_succ]
      refine wpAnyH_take (i := 2) (v := ?_) rfl (by kernel_rfl) (by kernel_rfl) (by kernel_rfl) (fun _ _ _ h => h) (Or.inl ⟨by rfl, ?_⟩) hHeld ?_
      rotate_left
      · (intro w hSw; (try dsimp only at hSw); go_simp <;> rfl)
      simp only [Act.put, List.getElem_toArray, List.getElem_cons_zero, List.getElem_cons_succ, List.setIfInBounds_toArray, List.set_cons_zero, List.set_cons_succ]
      refine wpAnyH_take (i := 3) (v := ?_) rfl (by kernel_rfl) (by kernel_rfl) (by kernel_rfl) (fun _ _ _ h => h) (Or.inl ⟨by rfl, ?_⟩) hHeld ?_
      rotate_left
      · (intro w hSw; (try dsimp only at hSw); go_simp <;> rfl)
      simp only [Act.put, List.getElem_toArray, List.getElem_cons_zero, List.getElem_cons_succ, List.setIfInBounds_toArray, List.set_cons_zero, List.set_cons_succ]
      refine wpAnyH_take (i := 4) (v := ?_) rfl (by kernel_rfl) (by kernel_rfl) (by kernel_rfl) (fun _ _ _ h => h) (Or.inl ⟨by rfl, ?_⟩) hHeld ?_
      rotate_left
      · (intro w hSw; have x1 := cell_below hSw _ _ x0; go_simp <;> rfl)
      simp only [Act.put, List.getElem_toArray, List.getElem_cons_zero, List.getElem_cons_succ, List.setIfInBounds_toArray, List.set_cons_zero, List.set_cons_succ]
      refine wpAnyH_take (i := 6) (v := ?_) rfl (by kernel_rfl) (by kernel_rfl) (by kernel_rfl) (fun _ _ _ h => h) (Or.inl ⟨by rfl, ?_⟩) hHeld ?_
      rotate_left
      · (intro w hSw; (try dsimp only at hSw); go_simp <;> rfl)
      simp only [Act.put, List.getElem_toArray, List.getElem_cons_zero, List.getElem_cons_succ, List.setIfInBounds_toArray, List.set_cons_zero, List.set_cons_succ]
      refine wpAnyH_take (i := 7) (v := ?_) rfl (by kernel_rfl) (by kernel_rfl) (by kernel_rfl) (fun _ _ _ h => h) (Or.inl ⟨by rfl, ?_⟩) hHeld ?_
      rotate_left
      · (intro w hSw; (try dsimp only at hSw); go_simp <;> rfl)
      simp only [Act.put, List.getElem_toArray, List.getElem_cons_zero, List.getElem_cons_succ, List.setIfInBounds_toArray, List.set_cons_zero, List.set_cons_succ]
      refine wpAnyH_take (i := 8) (v := ?_) rfl (by kernel_rfl) (by kernel_rfl) (by kernel_rfl) (fun _ _ _ h => h) (Or.inl ⟨by rfl, ?_⟩) hHeld ?_
      rotate_left
      · (intro w hSw; (try dsimp only at hSw); go_simp <;> rfl)
      simp only [Act.put, List.getElem_toArray, List.getElem_cons_zero, List.getElem_cons_succ, List.setIfInBounds_toArray, List.set_cons_zero, List.set_cons_succ]
      refine wpAnyH_take (i := 9) (v := ?_) rfl (by kernel_rfl) (by kernel_rfl) (by kernel_rfl) (fun _ _ _ h => h) (Or.inl ⟨by rfl, ?_⟩) hHeld ?_
      rotate_left
      · (intro w hSw; (try dsimp only at hSw); go_simp <;> rfl)
      simp only [Act.put, List.getElem_toArray, List.getElem_cons_zero, List.getElem_cons_succ, List.setIfInBounds_toArray, List.set_cons_zero, List.set_cons_succ]
      refine wpAnyH_take (i := 10) (v := ?_) rfl (by kernel_rfl) (by kernel_rfl) (by kernel_rfl) (fun _ _ _ h => h) (Or.inl ⟨by rfl, ?_⟩) hHeld ?_
      rotate_left
      · (intro w hSw; have x1 := cell_below hSw _ _ x0; go_simp <;> rfl)
      simp only [Act.put, List.getElem_toArray, List.getElem_cons_zero, List.getElem_cons_succ, List.setIfInBounds_toArray, List.set_cons_zero, List.set_cons_succ]
      refine wpAnyH_ready (rs := [5]) (by kernel_rfl) (by simp) ?_
      refine AllReadyH.cons rfl (fun K hK => ?_) AllReadyH.nil
      go_simp
      refine (synced_any hT6.one sx hsz).mono ?_
      rintro ex wn ⟨rfl, rfl⟩
      rw [HM.out]
      dsimp only
      refine hK.out _ _ (Below.refl _ _) (fun hHeld => ?_)
      clear hK K
      try simp only [Act.put, List.getElem_toArray, List.getElem_cons_zero, List.getElem_cons_succ, List.setIfInBounds_toArray, List.set_cons_zero, List.set_cons_succ]
      refine wpAnyH_ready (rs := [11]) (by kernel_rfl) (by simp) ?_
      refine AllReadyH.cons rfl (fun K hK => ?_) AllReadyH.nil
      go_simp
      refine (size_any hT6.one sx hsz).mono ?_
      rintro ex wn ⟨rfl, rfl⟩
      rw [HL.out]
      dsimp only
      refine hK.out _ _ (Below.refl _ _) (fun hHeld => ?_)
      clear hK K
      try simp only [Act.put, List.getElem_toArray, List.getElem_cons_zero, List.getElem_cons_succ, List.setIfInBounds_toArray, List.set_cons_zero, List.set_cons_succ]
      refine wpAnyH_take (i := 12) (v := ?_) rfl (by kernel_rfl) (by kernel_rfl) (by kernel_rfl) (fun _ _ _ h => h) (Or.inl ⟨by rfl, ?_⟩) hHeld ?_
      rotate_left
      · (intro w hSw; (try dsimp only at hSw); go_simp <;> rfl)
      simp only [Act.put, List.getElem_toArray, List.getElem_cons_zero, List.getElem_cons_succ, List.setIfInBounds_toArray, List.set_cons_zero, List.set_cons_succ]
      refine wpAnyH_done (by kernel_rfl) ?_ _
      clear hHeld
      go_wp2_with fail
      go_roundw
      case rel => exact ⟨j + 1, by go_num, by omega, hT6, hN6⟩
      case measure => simp [intOf]; omega
    · obtain rfl : j = nn := by omega
      have hd : decide ((j : Int) < (j : Int)) = false := by simp
      go_wp2_with fail
      refine (down_any hT.one).mono ?_
      rintro e w6 ⟨rfl, rfl⟩
      rw [hdn.out]
      go_wp2_with fail
      refine (alike_any hT.one hT.two rfl rfl).mono ?_
      rintro e w7 ⟨rfl, hb7⟩
      have hT7 := hT.below hb7
      go_wp2_with fail
      refine (awake2_any _).mono ?_
      rintro e w9 ⟨rfl, hb9⟩
      go_wp2_with fail
      go_ret
      exact ⟨rfl, bst hT7.bel hb9⟩
end Go.Proofs.Ytdcflgblaljdeaa
