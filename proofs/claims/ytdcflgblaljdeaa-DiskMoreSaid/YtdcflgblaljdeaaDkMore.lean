/-
  DiskMore: a crash that keeps more leaves of each file a longer begin of it, or as much; the names are the same.
-/
import Derived.Test.YtdcflgblaljdeaaDkTwice
set_option linter.unusedVariables false
set_option linter.unusedSimpArgs false
namespace Go.Proofs.Ytdcflgblaljdeaa
open Go.RowKit Go.Maps

theorem infoI64 : (Try.prog.info? 3).map (fun i => (i.zero, i.size, i.bytes)) = some (some (.int .i64 0), 1, 8) := by kernel_rfl
/-- numbers that the law put together itself -/
structure RI (w : World) (base : Nat) (A : Option Addr) (n c : Nat) (zs : List Int) : Prop where
  row : w.ownsRow base 3 1 (.slice A n c) n (zs.map (Value.int .i64))
  len : zs.length = n
theorem RI.at_ {w : World} {base : Nat} {A : Option Addr} {n c : Nat} {zs : List Int} (h : RI w base A n c zs) {ad : Addr} (hA : A = some ad) : base ≤ ad.block ∧ ad.block < w.heap.size := by
  rcases h.row.2 with ⟨hv, _⟩ | ⟨g, cap, cur, hv, hb, hg, _⟩
  · rw [hA] at hv; simp at hv
  · rw [hA] at hv
    simp only [Value.slice.injEq, Option.some.injEq] at hv
    obtain ⟨rfl, _⟩ := hv
    exact ⟨hb, (Array.getElem?_eq_some_iff.1 hg).1⟩
theorem RI.keep {w w' : World} {base : Nat} {A : Option Addr} {n c : Nat} {zs : List Int} (h : RI w base A n c zs) (hk : ∀ ad, A = some ad → w'.heap[ad.block]? = w.heap[ad.block]?) : RI w' base A n c zs := by
  refine ⟨⟨h.row.1, ?_⟩, h.len⟩
  rcases h.row.2 with hn | ⟨g, cap, cur, hv, hbg, hg, hr⟩
  · exact .inl hn
  · refine .inr ⟨g, cap, cur, hv, hbg, (hk ⟨g, 0, none⟩ ?_).trans hg, hr⟩
    simp only [Value.slice.injEq] at hv
    exact hv.1
theorem RI.isI {w : World} {base : Nat} {A : Option Addr} {n c : Nat} {zs : List Int} (h : RI w base A n c zs) (hr : ∀ z ∈ zs, -9223372036854775808 ≤ z ∧ z ≤ 9223372036854775807) : IsI w A n c zs := by
  have hrow := h.row
  rcases h.row.2 with ⟨hv, hn⟩ | ⟨g, cap, cur, hv, hbg, hg, hnc, hcm, hcs, htake⟩
  · simp only [Value.slice.injEq] at hv
    obtain ⟨rfl, rfl, rfl⟩ := hv
    exact ⟨h.len, Nat.le_refl _, hr, .inl (List.eq_nil_of_length_eq_zero h.len)⟩
  · simp only [Value.slice.injEq] at hv
    obtain ⟨rfl, _, rfl⟩ := hv
    refine ⟨h.len, hnc, hr, .inr ⟨g, 0, rfl, fun j z hj => ?_⟩⟩
    have hx := World.ownsRow.cells (g := g) hrow rfl j (Value.int .i64 z) (by rw [List.getElem?_map, hj]; rfl)
    simpa [Addr.add_lit] using hx
theorem ri_append {w : World} {base : Nat} {A : Option Addr} {n c : Nat} {zs : List Int} (h : RI w base A n c zs) (hb : base ≤ w.heap.size) (ty : TypeId) (z : Int) {bb : Nat} (hc : w.cell? ⟨bb, 0, none⟩ = some (.int .i64 z)) (hl : n ≤ 300) :
    ∃ v' w', (Builtin.append_ #[43, 43] ty #[.slice A n c, .slice (some ⟨bb, 0, none⟩) 1 1]).run Try.prog w = .ok v' w' ∧ ∃ A' c', v' = .slice A' (n + 1) c' ∧ RI w' base A' (n + 1) c' (zs ++ [z]) ∧
      (∀ b, b < w.heap.size → (∀ ad, A = some ad → ad.block ≠ b) → w'.heap[b]? = w.heap[b]?) ∧ (∀ B, B ≤ w.heap.size → (∀ ad, A = some ad → B ≤ ad.block) → Below B w w') ∧ (∀ ad', A' = some ad' → (∃ ad, A = some ad ∧ ad.block = ad'.block) ∨ w.heap.size ≤ ad'.block) := by
  obtain ⟨i0, h2, h3, h4, h5⟩ := info_parts infoI64
  obtain ⟨v', w', hr, hown, hgr, _, hat⟩ := run_append_own_at (P := Try.prog) (w := w) base 43 ty 3 i0 (.int .i64 0) 1 8 Try.underlying43 h2 h3 h4 h5 rfl (by decide) (.slice A n c) n (zs.map (Value.int .i64)) h.row ⟨bb, 0, none⟩ 1 1 [.int .i64 z] rfl
    (by intro j u hj; match j, hj with | 0, hj => exact Option.some.inj hj ▸ hc) (by intro u hu; simp at hu; subst hu; rfl) (by unfold maxLen; omega) (by omega) hb
  have hown2 := hown
  rcases hown2.2 with ⟨_, hn⟩ | ⟨g, cap, cur, rfl, _, _, _⟩
  · omega
  refine ⟨_, w', hr, _, cap, rfl, ⟨by simpa using hown, by simp [h.len]⟩, ?_, ?_, ?_⟩
  · intro b hbl hne
    refine (Away.of_grown hgr).block b hbl fun e => ?_
    cases A with
    | none => cases e
    | some ad => exact hne ad rfl (Option.some.inj e)
  · intro B hB hA
    refine (Away.of_grown hgr).below hB fun b e => ?_
    cases A with
    | none => cases e
    | some ad => have h1 := hA ad rfl; have h2 : ad.block = b := Option.some.inj e; omega
  · intro ad' e
    simp only [Option.some.injEq] at e
    subst e
    rcases hat with e | e
    · left
      cases A with
      | none => simp [Value.ownBlock] at e
      | some ad => exact ⟨ad, rfl, (Option.some.inj e).symm⟩
    · right
      have := Option.some.inj e
      simp at this ⊢
      omega

/-- what a crash leaves of a file -/
theorem crash_at {s : St} (hw : s.wf) (ks : List Int) {i : Nat} {p : Nm × Fc} (hp : s.fs[i]? = some p) : aget p.1 (s.crash ks).fs = some (p.2.1.take (kept p.2 ks i), kept p.2 ks i) := by
  have hr : Rising (crashed ks s.fs) := (rising_keys (crashed_keys ks s.fs)).2 hw.rise
  refine (aget_some hr).2 (List.mem_of_getElem? (i := i) ?_)
  unfold crashed
  rw [List.getElem?_mapIdx, hp]
  rfl
theorem kept_rep {c : Fc} {k : Int} {i N : Nat} (hi : i < N) : kept c (List.replicate N k) i = c.2 + min k.toNat (c.1.length - c.2) := by
  unfold kept
  rw [List.getElem?_replicate, if_pos hi]
  rfl
theorem kept_more {c : Fc} {k m : Int} {i N : Nat} (hi : i < N) (h : k ≤ m) : kept c (List.replicate N k) i ≤ kept c (List.replicate N m) i := by
  rw [kept_rep hi, kept_rep hi]
  omega
theorem ne_step {A1 A2 A1' : Option Addr} {w : World} {base : Nat} (hne : ∀ x y, A1 = some x → A2 = some y → x.block ≠ y.block) (hat : ∀ ad', A1' = some ad' → (∃ ad, A1 = some ad ∧ ad.block = ad'.block) ∨ w.heap.size ≤ ad'.block) (hl : ∀ ad, A2 = some ad → base ≤ ad.block ∧ ad.block < w.heap.size) : ∀ x y, A1' = some x → A2 = some y → x.block ≠ y.block := by
  intro x y ex ey
  rcases hat x ex with ⟨ad, ea, eb⟩ | e
  · rw [← eb]; exact hne ad y ea ey
  · have := (hl y ey).2; omega
theorem crash_more {s : St} (hw : s.wf) {k m : Int} (h : k ≤ m) {j : Nat} {x : Nm} (hx : ((s.crash (List.replicate 200 k)).fs.map (·.1))[j]? = some x) :
    ∃ l l2 : List UInt8, (s.crash (List.replicate 200 k)).read x = (l, 0) ∧ (s.crash (List.replicate 200 m)).read x = (l2, 0) ∧ l.length ≤ l2.length ∧ l = l2.take l.length := by
  have hx' : (s.fs.map (·.1))[j]? = some x := by rw [← crashed_keys (List.replicate 200 k) s.fs]; exact hx
  rw [List.getElem?_map] at hx'
  cases hp : s.fs[j]? with
  | none => rw [hp] at hx'; cases hx'
  | some p =>
    rw [hp] at hx'
    obtain rfl : p.1 = x := Option.some.inj hx'
    have hj : j < 200 := by have := hw.count; have := (List.getElem?_eq_some_iff.1 hp).1; omega
    have h1 := crash_at hw (List.replicate 200 k) hp
    have h2 := crash_at hw (List.replicate 200 m) hp
    have hle := kept_more (c := p.2) hj h
    refine ⟨p.2.1.take (kept p.2 (List.replicate 200 k) j), p.2.1.take (kept p.2 (List.replicate 200 m) j), ?_, ?_, ?_, ?_⟩
    · unfold St.read
      rw [h1]
      rfl
    · unfold St.read
      rw [h2]
      rfl
    · rw [List.length_take, List.length_take]; omega
    · rw [List.take_take, List.length_take]
      apply List.take_eq_take_iff.2
      omega

set_option maxRecDepth 100000 in
set_option maxHeartbeats 2000000 in
theorem more_walk (w : World) (A : Option Addr) (n c : Nat) (xs : List OpC) (h : IsL 6 (fun cs x => cs = x.cells ∧ x.ok w) w A n c xs) (k : Int) (hk0 : -9223372036854775808 ≤ k) (hk1 : k ≤ 9223372036854775807) (m : Nat) (hm : m < 256) :
    Calls Try.prog 9 #[.slice A n c, .int .i64 k, .int .u8 (m : Int)] w fun e w' => e = .returned (.bool true) ∧ Below w.heap.size w w' := by
  by_cases l1 : 1099511627776 < k
  · have d1 : decide ((1099511627776 : Int) < k) = true := decide_eq_true l1
    go_enter Try.func9, Try.ntmps9
    go_wp2_with fail
    refine (awake2_any _).mono ?_
    rintro e w9 ⟨rfl, hb9⟩
    go_wp2_with fail
    go_ret
    exact ⟨rfl, hb9⟩
  have d1 : decide ((1099511627776 : Int) < k) = false := decide_eq_false l1
  have hwr := IntWalk.i64_in (k + (m : Int)) (by omega)
  go_enter Try.func9, Try.ntmps9
  go_wp2_with fail
  refine (played_any w 1000 (by omega) A n c xs h).mono ?_
  rintro e w1 ⟨a, b, rfl, s, F, G, hT⟩
  clear h
  have hw := hT.one.1
  go_wp2_with fail
  go_loopw [9, 10, 11] (fun v1 v2 q wr => ∃ (j : Nat) (A1 : Option Addr) (c1 : Nat) (A2 : Option Addr) (c2 : Nat), v1 = .slice A1 j c1 ∧ v2 = .slice A2 j c2 ∧ q = .int .i64 (j : Int) ∧ j ≤ 200 ∧ RI wr w1.heap.size A1 j c1 (List.replicate j k) ∧ RI wr w1.heap.size A2 j c2 (List.replicate j (k + (m : Int))) ∧ (∀ x y, A1 = some x → A2 = some y → x.block ≠ y.block) ∧ Below w1.heap.size w1 wr) (fun _ _ q _ => 200 - (intOf q).toNat)
  case atStart => exact ⟨0, none, 0, none, 0, rfl, rfl, rfl, by omega, ⟨World.ownsRow_nil w1 _ _ 1, rfl⟩, ⟨World.ownsRow_nil w1 _ _ 1, rfl⟩, (fun _ _ e => by cases e), Below.refl _ _⟩
  case round =>
    obtain ⟨j, A1, c1, A2, c2, rfl, rfl, rfl, hj, hR1, hR2, hne, hB⟩ := hrel
    by_cases hj2 : j < 200
    · have hd : decide ((j : Int) < 200) = true := decide_eq_true (by omega)
      have hP1 := (hR1.keep (w' := wr.alloc (.cells #[.int .i64 k] 3)) fun ad e => heap_alloc_old _ _ (hR1.at_ e).2)
      have hP2 := (hR2.keep (w' := wr.alloc (.cells #[.int .i64 k] 3)) fun ad e => heap_alloc_old _ _ (hR2.at_ e).2)
      have hBa : Below w1.heap.size w1 (wr.alloc (.cells #[.int .i64 k] 3)) := hB.alloc hB.size _
      have hh := fun ty => ri_append hP1 hBa.size ty k (bb := wr.heap.size) (cell_of_row _ _ 0 _ _ _ (heap_alloc_new wr _)) (by omega)
      have hla2 := fun ad => hP2.at_ (ad := ad)
      have hla1 := fun ad => hP1.at_ (ad := ad)
      clear hR1 hR2 hP1 hB
      go_wp2_with (first | (at_builtin; refine wpList_run _ rfl (.tmp 30) (.tmp 32) 43 rfl (hh _) ?_; rintro v' w2 ⟨A1', c1', rfl, hR1, hkeep, hbel, hat⟩; have hR2 := hP2.keep fun ad e => hkeep ad.block (hla2 ad e).2 fun ad1 e1 => hne ad1 ad e1 e; have hB2 := hBa.trans (hbel w1.heap.size hBa.size fun ad e => (hla1 ad e).1); have hne2 := ne_step hne hat hla2; have hsr : List.replicate j k ++ [k] = List.replicate (j + 1) k := List.replicate_succ'.symm; rw [hsr] at hR1; clear hh hP2 hBa hla1 hla2 hkeep hbel hat hne hsr; have hP1 := (hR1.keep (w' := w2.alloc (.cells #[.int .i64 (k + (m : Int))] 3)) fun ad e => heap_alloc_old _ _ (hR1.at_ e).2); have hP2 := (hR2.keep (w' := w2.alloc (.cells #[.int .i64 (k + (m : Int))] 3)) fun ad e => heap_alloc_old _ _ (hR2.at_ e).2); have hBa : Below w1.heap.size w1 (w2.alloc (.cells #[.int .i64 (k + (m : Int))] 3)) := hB2.alloc hB2.size _; have hh := fun ty => ri_append hP2 hBa.size ty (k + (m : Int)) (bb := w2.heap.size) (cell_of_row _ _ 0 _ _ _ (heap_alloc_new w2 _)) (by omega); have hla2 := fun ad => hP2.at_ (ad := ad); have hla1 := fun ad => hP1.at_ (ad := ad); clear hR1 hR2 hP2 hB2) | (at_builtin; refine wpList_run _ rfl (.tmp 34) (.tmp 39) 43 rfl (hh _) ?_; rintro v' w3 ⟨A2', c2', rfl, hR2, hkeep, hbel, hat⟩))
      have hR1 := hP1.keep fun ad e => hkeep ad.block (hla1 ad e).2 fun ad1 e1 => (hne2 ad ad1 e e1).symm
      have hB3 := hBa.trans (hbel w1.heap.size hBa.size fun ad e => (hla2 ad e).1)
      have hne3 := ne_step (fun y x ey ex => (hne2 x y ex ey).symm) hat hla1
      have hsr : List.replicate j (k + (m : Int)) ++ [k + (m : Int)] = List.replicate (j + 1) (k + (m : Int)) := List.replicate_succ'.symm
      rw [hsr] at hR2
      clear hh hP1 hBa hla1 hla2 hkeep hbel hat hne2 hsr
      go_wp2_with fail
      go_roundw
      case rel => exact ⟨j + 1, _, _, _, _, rfl, rfl, by go_num, by omega, hR1, hR2, fun x y ex ey => (hne3 y x ey ex).symm, hB3⟩
      case measure => simp [intOf]; omega
    · obtain rfl : j = 200 := by omega
      have hI1 := hR1.isI (fun z hz => by rw [List.eq_of_mem_replicate hz]; omega)
      have hI2 := hR2.isI (fun z hz => by rw [List.eq_of_mem_replicate hz]; omega)
      have hla1 := fun ad => hR1.at_ (ad := ad)
      have hla2 := fun ad => hR2.at_ (ad := ad)
      have hmore := fun j x => @crash_more s hw k (k + (m : Int)) (by omega) j x
      have hkeys : (s.crash (List.replicate 200 (k + (m : Int)))).fs.map (·.1) = (s.crash (List.replicate 200 k)).fs.map (·.1) := (crashed_keys _ _).trans (crashed_keys _ _).symm
      clear hR1 hR2 hne
      generalize List.replicate 200 k = ks1 at *
      generalize List.replicate 200 (k + (m : Int)) = ks2 at *
      have HM := Lib.hid hmore
      have HK := Lib.hid hkeys
      clear hmore hkeys
      have hTr := hT.below hB
      have hFl := hT.one.2.1
      have hGl := hT.two.2.1
      clear hT hB hwr
      go_wp2_with fail
      refine (crash_any hTr.one hI1 (by unfold maxLen; omega) fun ad e _ hF => by have := hFl _ hF; have := (hla1 ad e).1; omega).mono ?_
      rintro e w4 ⟨rfl, ht⟩
      obtain ⟨F4, hT4⟩ := hTr.turned ht
      have ha4 : Away F wr w4 := by obtain ⟨_, _, ha, _⟩ := ht; exact ha
      have hI2' := hI2.away ha4 (fun ad e hF => by have := hFl _ hF; have := (hla2 ad e).1; omega)
      clear hI1 hI2 ht ha4 hTr
      go_wp2_with fail
      refine (crash_any hT4.two hI2' (by unfold maxLen; omega) fun ad e _ hG => by have := hGl _ hG; have := (hla2 ad e).1; omega).mono ?_
      rintro e w5 ⟨rfl, ht5⟩
      obtain ⟨G5, hT5⟩ := hT4.swap.turned ht5
      replace hT5 := hT5.swap
      clear hI2' hT4 ht5 hla1 hla2 hFl hGl hw
      generalize s.crash ks1 = z1 at *
      generalize s.crash ks2 = z2 at *
      have hw := hT5.one.1
      have hcnt := hw.count
      go_wp2_with fail
      refine (d_list hT5.one).mono ?_
      rintro e w6 ⟨A6, c6, rfl, hN6, hb6⟩
      have hT6 := hT5.below hb6
      clear hT5 hb6
      have hlen : z2.fs.length = z1.fs.length := by have := congrArg List.length HK.out; rwa [List.length_map, List.length_map] at this
      go_wp2_with fail
      refine (d_list hT6.two).mono ?_
      rintro e w7 ⟨A7, c7, rfl, hN7, hb7⟩
      rw [HK.out, hlen] at hN7
      rw [hlen]
      have hT7 := hT6.below hb7
      replace hN6 := hN6.below hb7
      clear hT6 hb7 hlen
      have hcap := hN6.cap
      generalize hnn : z1.fs.length = nn at *
      have HNN := Lib.hid hnn
      clear hnn
      go_wp2_with fail
      refine (sametexts_any hN6 hN7 (by unfold maxLen; omega) (by unfold maxLen; omega)).mono ?_
      rintro e w8 ⟨rfl, hb8⟩
      rw [decide_eq_true rfl]
      have hT8 := hT7.below hb8
      have hN8 := hN6.below hb8
      clear hT7 hN6 hN7 hb8
      go_wp2_with fail
      go_loopw [13] (fun q wr => ∃ j : Nat, q = .int .i64 (j : Int) ∧ j ≤ nn ∧ Two w wr a z1 b z2 F4 G5 ∧ IsN wr A6 nn c6 (z1.fs.map (·.1))) (fun q _ => nn - (intOf q).toNat)
      case atStart => exact ⟨0, rfl, by omega, hT8, hN8⟩
      case round =>
        clear hT8 hN8
        obtain ⟨j, rfl, hj, hT, hN⟩ := hrel
        by_cases hjn : j < nn
        · obtain ⟨bl, o, x, rfl, hx, x0⟩ := hN.at_ hjn
          have hxs := name_short hw hx
          have hd : decide ((j : Int) < (nn : Int)) = true := decide_eq_true (by omega)
          obtain ⟨la, lb, hra, hrb, hle, htk⟩ := HM.out j x hx
          obtain ⟨sx, hsx⟩ : ∃ v : ByteArray, v = ⟨x.toArray⟩ := ⟨_, rfl⟩
          have hra' : z1.read sx.data.toList = (la, 0) := by rw [hsx]; exact hra
          have hrb' : z2.read sx.data.toList = (lb, 0) := by rw [hsx]; exact hrb
          rw [← hsx] at x0
          have hsz : sx.size ≤ maxLen := by rw [hsx]; show x.toArray.size ≤ _; unfold maxLen; simp; omega
          have HRA := Lib.hid hra'
          have HRB := Lib.hid hrb'
          have HTK := Lib.hid htk
          clear hra hrb hra' hrb' htk hsx hx hxs
          go_wp2_with fail
          refine (d_read hT.one sx hsz HRA.out).mono ?_
          rintro e w4 ⟨A4, n4, c4, rfl, hI4, _, hb4⟩
          have x1 := cell_below hb4 _ _ x0
          have hT4 := hT.below hb4
          have hN4 := hN.below hb4
          clear hT hN hb4 x0
          go_wp2_with fail
          refine (d_read hT4.two sx hsz HRB.out).mono ?_
          rintro e w5 ⟨A5, n5, c5, rfl, hI5, _, hb5⟩
          have hI4' := hI4.below hb5
          have hT5 := hT4.below hb5
          have hN5 := hN4.below hb5
          clear hT4 hN4 hb5 x1 hI4
          have hl4 := hI4'.len
          have hl5 := hI5.len
          have hc5 := hI5.cap
          have h45 : n4 ≤ n5 := by omega
          have g1 : decide ((n5 : Int) < (n4 : Int)) = false := decide_eq_false (by omega)
          have hto := fun w => run_toB w A5 n5 c5 n4 (by omega)
          have hI5' := hI5.toB h45
          have HEQ : Hid (la = lb.take n4) := by show _ = _; rw [← hl4]; exact HTK.out
          clear hl4 hl5 hI5 HTK hle
          go_wp2_with fail
          refine (samebytes_any hI4' hI5').mono ?_
          rintro e w6 ⟨rfl, rfl⟩
          rw [decide_eq_true HEQ.out]
          go_wp2_with fail
          go_roundw
          case rel => exact ⟨j + 1, by go_num, by omega, hT5, hN5⟩
          case measure => simp [intOf]; omega
        · obtain rfl : j = nn := by omega
          have hd : decide ((j : Int) < (j : Int)) = false := by simp
          go_wp2_with fail
          refine (awake2_any _).mono ?_
          rintro e w9 ⟨rfl, hb9⟩
          go_wp2_with fail
          go_ret
          exact ⟨rfl, bst hT.bel hb9⟩
end Go.Proofs.Ytdcflgblaljdeaa
