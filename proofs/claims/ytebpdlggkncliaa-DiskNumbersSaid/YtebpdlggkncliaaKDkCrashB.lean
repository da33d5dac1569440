/-
  Crash as the document has it: the walk.
-/
import Derived.Test.YtebpdlggkncliaaK3
set_option linter.unusedVariables false
set_option linter.unusedSimpArgs false
namespace Go.Proofs.Ytebpdlggkncliaa
open Go.RowKit Go.Maps

theorem kept_int {c : Fc} (h : c.2 ≤ c.1.length) (ks : List Int) (i : Nat) {z : Int} (hz : ks[i]? = some z) :
    (kept c ks i : Int) = (c.2 : Int) + min (max z 0) ((c.1.length : Int) - (c.2 : Int)) := by
  unfold kept
  rw [hz]
  simp only [Option.map_some, Option.getD_some]
  omega
theorem kept_none {c : Fc} (ks : List Int) (i : Nat) (h : ks.length ≤ i) : kept c ks i = c.2 := by
  unfold kept
  rw [List.getElem?_eq_none h]
  simp

theorem rising_mixed (ks : List Int) {s : St} (hs : s.wf) (i : Nat) : Rising (mixed ks s.fs i) := (rising_keys (mixed_keys ks s.fs i)).2 hs.rise
theorem FRow.below' {w w' : World} {r : Raw} (h : FRow w r) (hb : Below w.heap.size w w') : FRow w' r := h.away (Away.of_below hb) fun b hg => by have := h.lt hg; omega
theorem IsI.below' {w w' : World} {A : Option Addr} {n c : Nat} {zs : List Int} (h : IsI w A n c zs) (hb : Below w.heap.size w w') : IsI w' A n c zs := by
  refine ⟨h.len, h.cap, h.rng, ?_⟩
  rcases h.src with h0 | ⟨b, o, hA, hc⟩
  · exact .inl h0
  · exact .inr ⟨b, o, hA, fun j z hj => cell_below hb _ _ (hc j z hj)⟩
theorem IsI.away' {F : Nat → Prop} {w w' : World} {A : Option Addr} {n c : Nat} {zs : List Int} (h : IsI w A n c zs) (ha : Away F w w') (hf : ∀ ad, A = some ad → zs ≠ [] → ¬ F ad.block) : IsI w' A n c zs := by
  by_cases hz : zs = []
  · exact ⟨h.len, h.cap, h.rng, .inl hz⟩
  · exact h.away ha fun ad e => hf ad e hz

set_option maxRecDepth 100000 in
set_option maxHeartbeats 1000000 in
theorem crash_any {w : World} {F : Nat → Prop} {a : Nat} {s : St} (h : Dk w F a s) {A : Option Addr} {n c : Nat} {ks : List Int} (hI : IsI w A n c ks) (hn : n ≤ maxLen) (hkf : ∀ ad, A = some ad → ks ≠ [] → ¬ F ad.block) :
    Calls Try.prog 23 #[.pointer (some ⟨a, 0, none⟩), .slice A n c] w fun e w' =>
      e = .returned (.tuple #[]) ∧ Turned w F a w' (s.crash ks) := by
  unfold maxLen at hn
  have hD := h
  have hwf := h.1
  have hl := list_any h
  obtain ⟨_, hFl, mb, ms, lv, hp, hlv, hfs, hfoot⟩ := h
  have hwf2 := St.crash_wf hwf ks
  have hmade := made_any hp
  have hal := hp.lt
  have haF := hfoot a (.inl rfl)
  have hmF := hfoot mb (.inr (.inl rfl))
  have hml := hFl mb hmF
  obtain ⟨N, hN⟩ : ∃ N, s.fs.length = N := ⟨_, rfl⟩
  have hN2 : N ≤ 200 := by rw [← hN]; exact hwf.count
  have HN := Lib.hid hN
  clear hN
  go_enter Try.func23, Try.ntmps23
  go_wp2_with fail
  refine hmade.mono ?_
  rintro e w' ⟨rfl, rfl⟩
  go_wp2_with fail
  refine hl.mono ?_
  rintro e w1 ⟨v, rfl, hNm, hb1⟩
  obtain ⟨NA, NC, rfl, _⟩ := hNm.at_
  rw [List.length_map, HN.out] at hNm ⊢
  clear hl hmade
  have hp1 := hp.away (Away.of_below hb1) (by omega) fun b hb => by have := hp.files.lt hb; omega
  have hI1 : IsI w1 A n c ks := by
    by_cases hks : ks = []
    · exact ⟨hI.len, hI.cap, hI.rng, .inl hks⟩
    · refine ⟨hI.len, hI.cap, hI.rng, ?_⟩
      rcases hI.src with h0 | ⟨b, o, hA, hc⟩
      · exact .inl h0
      · exact .inr ⟨b, o, hA, fun j z hj => cell_below hb1 _ _ (hc j z hj)⟩
  go_wp2_with fail
  go_loopw [14] (fun q wr => ∃ (i : Nat) (mi : List (Nm × Raw)), q = .int .i64 (i : Int) ∧ i ≤ N ∧ DkP wr a mb mi s.most s.left.isSome lv s.down ∧ Hid (amap Raw.c mi = mixed ks s.fs i) ∧ (∀ b, Foot a mb mi b → F b ∨ w.heap.size ≤ b) ∧
      Away F w wr ∧ Names wr w.heap.size (.slice NA N NC) (s.fs.map (·.1)) ∧ IsI wr A n c ks) (fun q _ => N - (intOf q).toNat)
  case atStart => exact ⟨0, ms, rfl, by omega, hp1, by show _ = _; rw [mixed_zero, hfs], fun b hb => .inl (hfoot b hb), Away.of_new hb1 F, hNm, hI1⟩
  case round =>
    obtain ⟨i, mi, rfl, hi, hP, hmi, hft, hAw, hNm, hI⟩ := hrel
    clear hp hp1 hI1 hb1 hD hfs hfoot
    by_cases hiN : i < N
    · have hd : decide ((i : Int) < (N : Int)) = true := decide_eq_true (by omega)
      -- ROUND
      obtain ⟨⟨nm, cc⟩, hfi⟩ : ∃ p, s.fs[i]? = some p := ⟨_, List.getElem?_eq_getElem (by rw [HN.out]; omega)⟩
      have hnr := hwf.names _ (List.mem_of_getElem? hfi)
      have hsafe := hwf.safe _ (List.mem_of_getElem? hfi)
      have hnl : nm.length ≤ 40 := by
        unfold rightN at hnr
        simp at hnr
        exact hnr.1.2
      obtain ⟨sb, hsb⟩ : ∃ sb : ByteArray, sb = ⟨nm.toArray⟩ := ⟨_, rfl⟩
      have hsbl : sb.data.toList = nm := by rw [hsb]
      have hsz : sb.size ≤ maxLen := by
        have : sb.size = nm.length := by rw [hsb]; rfl
        rw [this]; unfold maxLen; omega
      have HSB := Lib.hid hsbl
      have HFI := Lib.hid hfi
      have hag : aget nm (amap Raw.c mi) = some cc := by
        rw [hmi.out]
        exact (aget_some (rising_mixed ks hwf i)).2 (List.mem_of_getElem? (mixed_at hfi))
      obtain ⟨r, har, hrc⟩ := at_some hag
      have HRC := Lib.hid hrc
      have hmem := aget_mem har
      have hrow := hP.files.rows _ hmem
      have hum : usedR mi ≤ 16777216 := by
        have h1 := mixed_used ks hwf i
        have h2 := hwf.room
        have h3 := hwf.most
        have h4 : usedR mi = asum (fun c : Fc => c.1.length) (mixed ks s.fs i) := by unfold usedR; rw [← hmi.out, asum_amap]
        omega
      have hmlen : mi.length ≤ 1000 := by
        have h1 : (amap Raw.c mi).length = (mixed ks s.fs i).length := by rw [hmi.out]
        simp [amap, mixed] at h1
        have := hwf.count
        omega
      have hrl : r.c.1.length ≤ 16777216 := by
        have h1 := asum_adel (g := fun r : Raw => r.c.1.length) hP.files.rise nm
        rw [har] at h1
        unfold usedR at hum
        simp at h1
        omega
      have hsafe : cc.2 ≤ cc.1.length := hsafe
      have hkl := kept_le hsafe ks i
      rw [← hrc] at hkl hsafe
      have hlk := look_run hP.files.own hsz
      rw [hsbl, show atR mi nm = r by unfold atR; rw [har]; rfl] at hlk
      unfold Raw.val Raw.sl at hlk
      have c2 : wr.cell? ⟨a, 2, none⟩ = some (.map (some mb)) := hP.cell 2
      obtain ⟨g, rfl, hNs⟩ : ∃ g, NA = some ⟨g, 0, none⟩ ∧ wr.cell? ⟨g, i, none⟩ = some (.string sb) := by
        obtain ⟨A', c', he, h0 | ⟨g, hA', _, _, hcs⟩⟩ := hNm.at_
        · have := congrArg List.length h0
          rw [List.length_map, HN.out] at this
          simp at this
          omega
        · simp only [Value.slice.injEq] at he
          exact ⟨g, by rw [he.1]; exact hA', by rw [hcs i nm (by rw [List.getElem?_map, hfi]; rfl), hsb]⟩
      obtain ⟨k0, hk0⟩ : ∃ k0, kept r.c ks i = k0 := ⟨_, rfl⟩
      have HK0 := Lib.hid hk0
      have hfirst : ∀ W, FRow W r → Calls Try.prog 68 #[.agg #[.slice (r.g.map fun b => ⟨b, 0, none⟩) r.c.1.length r.cap, .int .i64 (r.c.2 : Int)], .int .i64 (k0 : Int)] W fun e w' =>
          ∃ r' : Raw, e = .returned r'.val ∧ r'.c = (r.c.1.take k0, k0) ∧ FRow w' r' ∧ (∀ b, r'.g = some b → W.heap.size ≤ b) ∧ Below W.heap.size W w' := fun W hW => by rw [← hk0]; exact first_any hW _ hkl.1 hrl
      clear hag har hrc hsb hsbl hnr hfi hmem hkl hk0
      have hni := hI.len
      have hcapI := hI.cap
      by_cases hin : i < n
      · obtain ⟨z, hz⟩ : ∃ z, ks[i]? = some z := ⟨_, List.getElem?_eq_getElem (by omega)⟩
        have hzr := hI.rng z (List.mem_of_getElem? hz)
        obtain ⟨kb, ko, rfl, hkc⟩ : ∃ b o, A = some ⟨b, o, none⟩ ∧ wr.cell? ⟨b, o + i, none⟩ = some (.int .i64 z) := by
          rcases hI.src with h0 | ⟨b, o, hA, hc⟩
          · rw [h0] at hz; simp at hz
          · exact ⟨b, o, hA, hc i z hz⟩
        have hkk := kept_int hsafe ks i hz
        clear hz
        have hW4 : Below wr.heap.size wr (wr.alloc (.cells #[.slice (r.g.map fun b => ⟨b, 0, none⟩) r.c.1.length r.cap, .int .i64 (r.c.2 : Int)] 94)).drew := (((Below.refl wr.heap.size wr).alloc (Nat.le_refl _) (.cells #[.slice (r.g.map fun b => ⟨b, 0, none⟩) r.c.1.length r.cap, .int .i64 (r.c.2 : Int)] 94))).drew
        have hP4 := hP.away (Away.of_below hW4) (fun e => by have := hP.lt; omega) fun b hb e => by have := hP.files.lt hb; omega
        have x0 : (wr.alloc (.cells #[.slice (r.g.map fun b => ⟨b, 0, none⟩) r.c.1.length r.cap, .int .i64 (r.c.2 : Int)] 94)).drew.cell? ⟨wr.heap.size, 0, none⟩ = some (.slice (r.g.map fun b => ⟨b, 0, none⟩) r.c.1.length r.cap) := cell_of_row (wr.alloc (.cells #[.slice (r.g.map fun b => ⟨b, 0, none⟩) r.c.1.length r.cap, .int .i64 (r.c.2 : Int)] 94)) _ 0 _ _ _ (heap_alloc_new wr _)
        have x1 : (wr.alloc (.cells #[.slice (r.g.map fun b => ⟨b, 0, none⟩) r.c.1.length r.cap, .int .i64 (r.c.2 : Int)] 94)).drew.cell? ⟨wr.heap.size, 1, none⟩ = some (.int .i64 (r.c.2 : Int)) := cell_of_row (wr.alloc (.cells #[.slice (r.g.map fun b => ⟨b, 0, none⟩) r.c.1.length r.cap, .int .i64 (r.c.2 : Int)] 94)) _ 1 _ _ _ (heap_alloc_new wr _)
        have x2 : (wr.alloc (.cells #[.slice (r.g.map fun b => ⟨b, 0, none⟩) r.c.1.length r.cap, .int .i64 (r.c.2 : Int)] 94)).drew.cell? ⟨kb, ko + i, none⟩ = some (.int .i64 z) := cell_below hW4 _ _ hkc
        have HK : Hid ((k0 : Int) = (r.c.2 : Int) + min (max z 0) ((r.c.1.length : Int) - (r.c.2 : Int))) := by show _ = _; rw [← HK0.out]; exact hkk
        clear hkk
        go_wp2_with fail
        go_region
        all_goals go_wp2_with fail
        rw [← HK.out]
        refine (hfirst _ (hrow.below' hW4)).mono ?_
        rintro e w5 ⟨r', rfl, hc', hrow', hnew, hb5⟩
        have hP5 := hP4.away (Away.of_below hb5) (fun e => by have := hP4.lt; omega) fun b hb e => by have := hP4.files.lt hb; omega
        have hap5 : ∀ p ∈ mi, p.1 ≠ sb.data.toList → ∀ b, r'.g = some b → p.2.g ≠ some b := fun p hp _ b hb e => by
          have h1 := hnew b hb
          have h2 := (hP4.files.rows p hp).lt e
          omega
        have hqput := put_any sb (hP5.q _) hsz r' hrow' hap5 hum hmlen (by rw [hc']; simp; omega)
        have hAw5 : Away F w w5 := (hAw.trans (Away.of_new hW4 F) fun b e => .inl e).trans (Away.of_new hb5 F) fun b e => .inl e
        have hsz5 : w.heap.size ≤ wr.heap.size := hAw.size
        have hsz6 : wr.heap.size ≤ (wr.alloc (.cells #[.slice (r.g.map fun b => ⟨b, 0, none⟩) r.c.1.length r.cap, .int .i64 (r.c.2 : Int)] 94)).drew.heap.size := hW4.size
        have hNm5 : Names w5 w.heap.size (.slice (some ⟨g, 0, none⟩) N NC) (s.fs.map (·.1)) := (hNm.away (Away.of_below hW4) fun b _ hb e => by omega).away (Away.of_below hb5) fun b _ hb e => by omega
        have hI5 : IsI w5 (some ⟨kb, ko, none⟩) n c ks := (hI.below' hW4).below' hb5
        clear hb5 hfirst hP4 hrow'
        go_wp2_with fail
        refine hqput.mono ?_
        rintro e w6 ⟨rfl, hP6, hA6⟩
        have hft6 : ∀ b, Foot a mb (aput sb.data.toList r' mi) b → F b ∨ w.heap.size ≤ b := foot_put hft fun b hb => .inr (by have := hnew b hb; omega)
        have hA7 : Away F w w6 := hAw5.trans hA6 fun b e => .inl (by rcases e with rfl | rfl; exact haF; exact hmF)
        have hNm6 : Names w6 w.heap.size (.slice (some ⟨g, 0, none⟩) N NC) (s.fs.map (·.1)) := hNm5.away hA6 fun b hb _ e => by rcases e with rfl | rfl <;> omega
        have hI6 : IsI w6 (some ⟨kb, ko, none⟩) n c ks := hI5.away' hA6 fun ad hA hks e => by
          rcases e with e | e
          · exact hkf ad hA hks (by rw [e]; exact haF)
          · exact hkf ad hA hks (by rw [e]; exact hmF)
        have HM6 : Hid (amap Raw.c (aput sb.data.toList r' mi) = mixed ks s.fs (i + 1)) := by
          show _ = _
          rw [amap_aput, hmi.out, HSB.out, hc', ← mixed_succ HFI.out, ← HRC.out, HK0.out]
          exact aput_set (rising_mixed ks hwf i) (mixed_at HFI.out) _
        clear hP5 hap5 hqput hAw5 hNm5 hI5 hA6 hAw hNm hI hP hft hnew hrow
        go_wp2_with fail
        go_roundw
        case rel => exact ⟨i + 1, aput sb.data.toList r' mi, by go_num, by omega, hP6, HM6.out, hft6, hA7, hNm6, hI6⟩
        case measure => simp [intOf]; omega
      · have HK : Hid (k0 = r.c.2) := by show _ = _; rw [← HK0.out]; exact kept_none ks i (by omega)
        have hW4 : Below wr.heap.size wr (wr.alloc (.cells #[.slice (r.g.map fun b => ⟨b, 0, none⟩) r.c.1.length r.cap, .int .i64 (r.c.2 : Int)] 94)) := ((Below.refl wr.heap.size wr).alloc (Nat.le_refl _) (.cells #[.slice (r.g.map fun b => ⟨b, 0, none⟩) r.c.1.length r.cap, .int .i64 (r.c.2 : Int)] 94))
        have hP4 := hP.away (Away.of_below hW4) (fun e => by have := hP.lt; omega) fun b hb e => by have := hP.files.lt hb; omega
        have x0 : (wr.alloc (.cells #[.slice (r.g.map fun b => ⟨b, 0, none⟩) r.c.1.length r.cap, .int .i64 (r.c.2 : Int)] 94)).cell? ⟨wr.heap.size, 0, none⟩ = some (.slice (r.g.map fun b => ⟨b, 0, none⟩) r.c.1.length r.cap) := cell_of_row (wr.alloc (.cells #[.slice (r.g.map fun b => ⟨b, 0, none⟩) r.c.1.length r.cap, .int .i64 (r.c.2 : Int)] 94)) _ 0 _ _ _ (heap_alloc_new wr _)
        have x1 : (wr.alloc (.cells #[.slice (r.g.map fun b => ⟨b, 0, none⟩) r.c.1.length r.cap, .int .i64 (r.c.2 : Int)] 94)).cell? ⟨wr.heap.size, 1, none⟩ = some (.int .i64 (r.c.2 : Int)) := cell_of_row (wr.alloc (.cells #[.slice (r.g.map fun b => ⟨b, 0, none⟩) r.c.1.length r.cap, .int .i64 (r.c.2 : Int)] 94)) _ 1 _ _ _ (heap_alloc_new wr _)
        have hdn : decide ((i : Int) < (n : Int)) = false := by simp; omega
        rw [HK.out] at hfirst
        go_wp2_with fail
        refine (hfirst _ (hrow.below' hW4)).mono ?_
        rintro e w5 ⟨r', rfl, hc', hrow', hnew, hb5⟩
        rw [← HK.out] at hc'
        have hP5 := hP4.away (Away.of_below hb5) (fun e => by have := hP4.lt; omega) fun b hb e => by have := hP4.files.lt hb; omega
        have hap5 : ∀ p ∈ mi, p.1 ≠ sb.data.toList → ∀ b, r'.g = some b → p.2.g ≠ some b := fun p hp _ b hb e => by
          have h1 := hnew b hb
          have h2 := (hP4.files.rows p hp).lt e
          omega
        have hqput := put_any sb (hP5.q _) hsz r' hrow' hap5 hum hmlen (by rw [hc']; simp; omega)
        have hAw5 : Away F w w5 := (hAw.trans (Away.of_new hW4 F) fun b e => .inl e).trans (Away.of_new hb5 F) fun b e => .inl e
        have hsz5 : w.heap.size ≤ wr.heap.size := hAw.size
        have hsz6 : wr.heap.size ≤ (wr.alloc (.cells #[.slice (r.g.map fun b => ⟨b, 0, none⟩) r.c.1.length r.cap, .int .i64 (r.c.2 : Int)] 94)).heap.size := hW4.size
        have hNm5 : Names w5 w.heap.size (.slice (some ⟨g, 0, none⟩) N NC) (s.fs.map (·.1)) := (hNm.away (Away.of_below hW4) fun b _ hb e => by omega).away (Away.of_below hb5) fun b _ hb e => by omega
        have hI5 : IsI w5 A n c ks := (hI.below' hW4).below' hb5
        clear hb5 hfirst hP4 hrow'
        go_wp2_with fail
        refine hqput.mono ?_
        rintro e w6 ⟨rfl, hP6, hA6⟩
        have hft6 : ∀ b, Foot a mb (aput sb.data.toList r' mi) b → F b ∨ w.heap.size ≤ b := foot_put hft fun b hb => .inr (by have := hnew b hb; omega)
        have hA7 : Away F w w6 := hAw5.trans hA6 fun b e => .inl (by rcases e with rfl | rfl; exact haF; exact hmF)
        have hNm6 : Names w6 w.heap.size (.slice (some ⟨g, 0, none⟩) N NC) (s.fs.map (·.1)) := hNm5.away hA6 fun b hb _ e => by rcases e with rfl | rfl <;> omega
        have hI6 : IsI w6 A n c ks := hI5.away' hA6 fun ad hA hks e => by
          rcases e with e | e
          · exact hkf ad hA hks (by rw [e]; exact haF)
          · exact hkf ad hA hks (by rw [e]; exact hmF)
        have HM6 : Hid (amap Raw.c (aput sb.data.toList r' mi) = mixed ks s.fs (i + 1)) := by
          show _ = _
          rw [amap_aput, hmi.out, HSB.out, hc', ← mixed_succ HFI.out, ← HRC.out, HK0.out]
          exact aput_set (rising_mixed ks hwf i) (mixed_at HFI.out) _
        clear hP5 hap5 hqput hAw5 hNm5 hI5 hA6 hAw hNm hI hP hft hnew hrow
        go_wp2_with fail
        go_roundw
        case rel => exact ⟨i + 1, aput sb.data.toList r' mi, by go_num, by omega, hP6, HM6.out, hft6, hA7, hNm6, hI6⟩
        case measure => simp [intOf]; omega
    · obtain rfl : i = N := by omega
      have hd : decide ((i : Int) < (i : Int)) = false := by simp
      have c3 : wr.cell? ⟨a, 3, none⟩ = some (.bool s.left.isSome) := hP.cell 3
      have c5 : wr.cell? ⟨a, 5, none⟩ = some (.bool s.down) := hP.cell 5
      have f3 := hP.free 3
      have f5 := hP.free 5
      have hA5 : Away (fun b => b = a) wr ((wr.setCell ⟨a, 5, none⟩ (.bool false)).setCell ⟨a, 3, none⟩ (.bool false)) := (Away.setCell wr ⟨a, 5, none⟩ _).trans (Away.setCell _ ⟨a, 3, none⟩ _) fun b e => .inl e
      have hne := hP.ne_map
      have HT : Hid (Turned w F a ((wr.setCell ⟨a, 5, none⟩ (.bool false)).setCell ⟨a, 3, none⟩ (.bool false)) (s.crash ks)) := by
        refine Turned.mk' hwf2 (hAw.trans hA5 fun b e => .inl (by subst e; exact haF)) (lv := lv) (mb := mb) (ms := mi) ⟨?_, hP.files.away hA5 fun b hb e => ?_⟩ (fun k e => by cases e) ?_ hft
        · rw [set_blk (set_blk hP.blk 5 _) 3]
          rfl
        · subst e
          rcases hb with e | ⟨p, hp', hg⟩
          · exact hne e.symm
          · exact (hP.ne_row (hP.files.rows p hp') hg).1 rfl
        · show crashed ks s.fs = _
          rw [hmi.out, ← HN.out, mixed_all]
      clear hNm hI hwf2 hwf hlv
      go_wp2_with fail
      go_end0
      exact ⟨rfl, HT.out⟩
end Go.Proofs.Ytebpdlggkncliaa
