/-
  BytesTells: the law's walk.
-/
import Derived.Test.YtepdgldhaojmpaaRefSeal
import Derived.Test.YtepdgldhaojmpaaAwaken
import Derived.Test.YtepdgldhaojmpaaWithin
set_option linter.unusedSimpArgs false
namespace Go.Proofs.Ytepdgldhaojmpaa.bytesTells
open Go.ChangeShapes Go.WideShapes Go.ChangeAt Go.RowKit
open Go.Lib (uvarint byteCells)
set_option linter.unusedVariables false

/-- what both tell at a place: the same numbers, places, errors, strings -/
theorem reads (l : List UInt8) (n : Nat) (hn : l.length = n) (h700 : n ≤ 700) (at_ most : Int) (ha0 : -9223372036854775808 ≤ at_) (ha1 : at_ ≤ 9223372036854775807) (hm0 : -9223372036854775808 ≤ most) (hm1 : most ≤ 9223372036854775807) :
    ∃ (p i e i2 e2 : Nat) (r : Int) (T : List UInt8),
      (∀ w A c, IsB w A n c l → Calls Try.prog 11 #[.slice A n c, .int .i64 at_] w fun x w' => x = .returned (.tuple #[.int .u64 (p : Int), .int .i64 (i : Int), .int .i64 (e : Int)]) ∧ w = w') ∧
      (∀ w A c, IsB w A n c l → Calls Try.prog 19 #[.slice A n c, .int .i64 at_] w fun x w' => x = .returned (.tuple #[.int .u64 (p : Int), .int .i64 (i : Int), .int .i64 (e : Int)]) ∧ Below w.heap.size w w') ∧
      (∀ w A c, IsB w A n c l → Calls Try.prog 20 #[.slice A n c, .int .i64 at_] w fun x w' => x = .returned (.tuple #[.int .i64 r, .int .i64 (i : Int), .int .i64 (e : Int)]) ∧ w = w') ∧
      (∀ w A c, IsB w A n c l → Calls Try.prog 21 #[.slice A n c, .int .i64 at_] w fun x w' => x = .returned (.tuple #[.int .i64 r, .int .i64 (i : Int), .int .i64 (e : Int)]) ∧ Below w.heap.size w w') ∧
      (∀ w A c, IsB w A n c l → Calls Try.prog 16 #[.slice A n c, .int .i64 at_, .int .i64 most] w fun x w' => (∃ B m d, x = .returned (.tuple #[.slice B m d, .int .i64 (i2 : Int), .int .i64 (e2 : Int)]) ∧ IsB w' B m d T) ∧ Below w.heap.size w w') ∧
      (∀ w A c, IsB w A n c l → Calls Try.prog 22 #[.slice A n c, .int .i64 at_, .int .i64 most] w fun x w' => (∃ B m d, x = .returned (.tuple #[.slice B m d, .int .i64 (i2 : Int), .int .i64 (e2 : Int)]) ∧ IsB w' B m d T) ∧ Below w.heap.size w w') := by
  by_cases hk : 0 ≤ at_ ∧ at_ ≤ (n : Int)
  · obtain ⟨k, rfl⟩ := Int.eq_ofNat_of_zero_le hk.1
    have hkn : k ≤ n := by omega
    refine ⟨(getU (l.drop k)).1, nextU k (getU (l.drop k)), (getU (l.drop k)).2.2, (blobOf l k most).2.1, (blobOf l k most).2.2, Lib.unzigzag (getU (l.drop k)).1, (blobOf l k most).1, ?_, ?_, ?_, ?_, ?_, ?_⟩
    · exact fun w A c h => getUint_any A n c k l w h (by omega) hkn
    · exact fun w A c h => refGetUint_any A n c k l w h (by omega) hkn
    · exact fun w A c h => getInt_any A n c k l w h (by omega) hkn
    · exact fun w A c h => refGetInt_any A n c k l w h (by omega) hkn
    · intro w A c h
      refine (getBlob_any A n c k most l w h (by omega) hm0 hm1 hkn).mono ?_
      rintro x w' ⟨⟨v, rfl, ho⟩, hb⟩
      obtain ⟨B, m, d, rfl, hi⟩ := own_slice ho
      exact ⟨⟨B, m, d, rfl, hi⟩, hb⟩
    · exact fun w A c h => refGetBlob_any A n c k most l w h (by omega) hm0 hm1 hkn
  · have hk' : at_ < 0 ∨ (n : Int) < at_ := by omega
    refine ⟨0, 0, 2, 0, 2, 0, [], ?_, ?_, ?_, ?_, ?_, ?_⟩
    · exact fun w A c h => getUint_out A n c at_ w hk'
    · exact fun w A c h => refGetUint_out A n c at_ w hk'
    · exact fun w A c h => getInt_out A n c at_ w hk'
    · exact fun w A c h => refGetInt_out A n c at_ w hk'
    · intro w A c h
      refine (getBlob_out A n c at_ most l w h (by omega) hm0 hm1 hk').mono ?_
      rintro x w' ⟨⟨v, rfl, ho⟩, hb⟩
      obtain ⟨B, m, d, rfl, hi⟩ := own_slice ho
      exact ⟨⟨B, m, d, rfl, hi⟩, hb⟩
    · exact fun w A c h => refGetBlob_out A n c at_ most l w h (by omega) hm0 hm1 hk'

set_option maxRecDepth 100000 in
set_option maxHeartbeats 4000000 in
theorem walk (x : Nat) (hx : x < 18446744073709551616) (A : Option Addr) (n c : Nat) (l : List UInt8) (at_ most : Int) (ha0 : -9223372036854775808 ≤ at_) (ha1 : at_ ≤ 9223372036854775807) (hm0 : -9223372036854775808 ≤ most) (hm1 : most ≤ 9223372036854775807) (w : World) (h : IsB w A n c l) :
    Calls Try.prog 4 #[.int .u64 (x : Int), .slice A n c, .int .i64 at_, .int .i64 most] w fun e w' => e = .returned (.bool true) ∧ Below w.heap.size w w' := by
  by_cases h700 : 700 < n
  · clear h
    go_enter Try.func4, Try.ntmps4
    go_wp2_with fail
    refine (awake_any _).mono ?_
    rintro e w1 ⟨rfl, hb⟩
    go_wp2_with fail
    go_ret
    exact ⟨rfl, hb⟩
  obtain ⟨i0, hi, hz0, hz1, hz2⟩ := info_parts infoByte
  obtain ⟨p, i, e, i2, e2, r, T, GU, GR, GI, GS, GB, GC⟩ := reads l n h.len (by omega) at_ most ha0 ha1 hm0 hm1
  have GU := Lib.hid GU
  have GR := Lib.hid GR
  have GI := Lib.hid GI
  have GS := Lib.hid GS
  have GB := Lib.hid GB
  have GC := Lib.hid GC
  have HL := Lib.hid h.len
  rename_i GU0 GR0 GI0 GS0 GB0 GC0
  clear GU0 GR0 GI0 GS0 GB0 GC0
  go_enter Try.func4, Try.ntmps4
  go_wp2_with (at_builtin; refine wpList_putAny _ rfl _ _ 24 rfl 5 i0 Try.underlying24 hi hz0 hz1 hz2 w.heap.size _ [] rfl (own_empty w 5) A n c l rfl (h.alloc _) (by simp; omega) (by simp) ?_; rintro v1 w1 ho1 hb1; rw [List.nil_append] at ho1)
  obtain ⟨Ai, ci, rfl, hIn, _⟩ := own_is ho1
  rw [HL.out] at hIn ⊢
  have hB1 := ((Below.refl w.heap.size w).alloc (Nat.le_refl _) (.cells #[] 5)).trans hb1
  replace h := h.below hB1
  clear ho1 hb1
  refine (GU.out _ _ _ hIn).mono ?_
  rintro ex w2 ⟨rfl, rfl⟩
  go_wp2_with fail
  refine (GR.out _ _ _ h).mono ?_
  rintro ex w3 ⟨rfl, hb3⟩
  replace h := h.below hb3
  replace hIn := hIn.below hb3
  have hB3 := bstep0 hB1 hb3
  clear hB1 hb3
  go_wp2_with fail
  refine (GI.out _ _ _ hIn).mono ?_
  rintro ex w4 ⟨rfl, rfl⟩
  go_wp2_with fail
  refine (GS.out _ _ _ h).mono ?_
  rintro ex w5 ⟨rfl, hb5⟩
  replace h := h.below hb5
  replace hIn := hIn.below hb5
  have hB5 := bstep0 hB3 hb5
  clear hB3 hb5
  go_wp2_with fail
  refine (GB.out _ _ _ hIn).mono ?_
  rintro ex w6 ⟨⟨Bt, mt, ct, rfl, ht⟩, hb6⟩
  replace h := h.below hb6
  replace hIn := hIn.below hb6
  have hB6 := bstep0 hB5 hb6
  clear hB5 hb6
  go_wp2_with fail
  refine (GC.out _ _ _ h).mono ?_
  rintro ex w7 ⟨⟨Bu, mu, cu, rfl, hu⟩, hb7⟩
  replace h := h.below hb7
  replace hIn := hIn.below hb7
  replace ht := ht.below hb7
  have hB7 := bstep0 hB6 hb7
  clear hB6 hb7
  go_wp2_with fail
  refine (unseal_any _ _ _ l _ hIn (by omega)).mono ?_
  rintro ex w8 ⟨hop, hb8⟩
  have HO : ∃ (B : Option Addr) (m d g : Nat) (V : List UInt8), ex = .returned (.tuple #[.slice B m d, .int .i64 (g : Int)]) ∧ IsB w8 B m d V ∧
      (∀ w' ex', ((∃ body B m d, l = sealed body ∧ ex' = Ending.returned (.tuple #[.slice B m d, .int .i64 0]) ∧ IsB w' B m d body) ∨
       ((∀ body, l ≠ sealed body) ∧ ex' = .returned (.tuple #[.slice none 0 0, .int .i64 (if l.length < 4 then 11 else 12)]))) →
       ∃ B m d, ex' = .returned (.tuple #[.slice B m d, .int .i64 (g : Int)]) ∧ IsB w' B m d V) := by
    rcases hop with ⟨body, v, hbody, rfl, hown⟩ | ⟨hno, rfl⟩
    · obtain ⟨B, m, d, rfl, hi2⟩ := own_slice hown
      refine ⟨B, m, d, 0, body, rfl, hi2, fun w' ex' hh => ?_⟩
      rcases hh with ⟨body', B', m', d', hb', rfl, hi'⟩ | ⟨hno, _⟩
      · obtain rfl := sealed_inj (hbody.symm.trans hb')
        exact ⟨B', m', d', rfl, hi'⟩
      · exact absurd hbody (hno body)
    · refine ⟨none, 0, 0, if l.length < 4 then 11 else 12, [], ?_, IsB.nil _, fun w' ex' hh => ?_⟩
      · split <;> rfl
      · rcases hh with ⟨body', B', m', d', hb', _, _⟩ | ⟨_, rfl⟩
        · exact absurd hb' (hno body')
        · refine ⟨none, 0, 0, ?_, IsB.nil _⟩
          split <;> rfl
  obtain ⟨Bv, mv, cv, gv, V, rfl, hv, HO⟩ := HO
  have HO := Lib.hid HO
  clear hop
  replace h := h.below hb8
  replace hIn := hIn.below hb8
  replace ht := ht.below hb8
  replace hu := hu.below hb8
  have hB8 := bstep0 hB7 hb8
  clear hB7 hb8
  go_wp2_with fail
  refine (refUnseal_any _ _ _ l _ h (by omega)).mono ?_
  rintro ex w9 ⟨hop, hb9⟩
  obtain ⟨Bw, mw, cw, rfl, hw⟩ := HO.out w9 ex hop
  clear hop HO
  replace h := h.below hb9
  replace hIn := hIn.below hb9
  replace ht := ht.below hb9
  replace hu := hu.below hb9
  replace hv := hv.below hb9
  have hB9 := bstep0 hB8 hb9
  clear hB8 hb9 GU GR GI GS GB GC
  clear HO
  obtain ⟨sT, hsT⟩ : ∃ s : ByteArray, s = ⟨T.toArray⟩ := ⟨_, rfl⟩
  obtain ⟨sV, hsV⟩ : ∃ s : ByteArray, s = ⟨V.toArray⟩ := ⟨_, rfl⟩
  have f1 := str_as w9 ht hsT
  have f2 := str_as w9 hu hsT
  have f3 := str_as w9 hv hsV
  have f4 := str_as w9 hw hsV
  clear hsT hsV
  go_wp2_with fail
  (try clear f1 f2 f3 f4)
  clear ht hu hv hw
  obtain ⟨xi, hxi⟩ : ∃ xi : Int, IntKind.i64.wrap (x : Int) = xi := ⟨_, rfl⟩
  have hxr : -9223372036854775808 ≤ xi ∧ xi ≤ 9223372036854775807 := by rw [← hxi, IntKind.wrap_i64]; omega
  obtain ⟨s1, hs1⟩ : ∃ s : ByteArray, s = ⟨(sealed l).toArray⟩ := ⟨_, rfl⟩
  obtain ⟨s2, hs2⟩ : ∃ s : ByteArray, s = ⟨(uvarint x).toArray⟩ := ⟨_, rfl⟩
  obtain ⟨s3, hs3⟩ : ∃ s : ByteArray, s = ⟨(uvarint (Lib.zigzag xi)).toArray⟩ := ⟨_, rfl⟩
  obtain ⟨s4, hs4⟩ : ∃ s : ByteArray, s = ⟨(uvarint n ++ l).toArray⟩ := ⟨_, rfl⟩
  have HS1 := Lib.hid hs1
  have HS2 := Lib.hid hs2
  have HS3 := Lib.hid hs3
  have HS4 := Lib.hid hs4
  clear hs1 hs2 hs3 hs4
  replace h := h.drew
  replace hIn := hIn.drew
  replace hB9 := hB9.drew
  refine wp_region_held_drew (S := fun w' => Below w9.drew.heap.size w9.drew w') (by kernel_rfl) (Below.refl _ _) (fun hHeld => ?_)
  generalize w9.drew = wa at h hIn hB9 hHeld ⊢
  refine wpAnyH_take (i := 0) (v := ?_) rfl (by kernel_rfl) (by kernel_rfl) (by kernel_rfl) (fun _ _ _ h => h) (Or.inl ⟨by rfl, ?_⟩) hHeld ?_
  rotate_left
  · (intro w hSw; (try dsimp only at hSw); go_simp <;> rfl)
  simp only [Act.put, List.getElem_toArray, List.getElem_cons_zero, List.getElem_cons_succ, List.setIfInBounds_toArray, List.set_cons_zero, List.set_cons_succ]
  refine wpAnyH_take (i := 2) (v := ?_) rfl (by kernel_rfl) (by kernel_rfl) (by kernel_rfl) (fun _ _ _ h => h) (Or.inl ⟨by rfl, ?_⟩) hHeld ?_
  rotate_left
  · (intro w hSw; (try dsimp only at hSw); go_simp <;> rfl)
  simp only [Act.put, List.getElem_toArray, List.getElem_cons_zero, List.getElem_cons_succ, List.setIfInBounds_toArray, List.set_cons_zero, List.set_cons_succ]
  refine wpAnyH_ready (rs := [1]) (by kernel_rfl) (by simp) ?_
  refine AllReadyH.cons rfl (fun K hK => ?_) AllReadyH.nil
  go_simp
  refine (crc_any Ai n ci l wa hIn (by omega)).mono ?_
  rintro ex wb ⟨rfl, hbN⟩
  dsimp only
  refine hK.out _ _ (bstep0 hHeld hbN) (fun hHeld => ?_)
  clear hK K
  try simp only [Act.put, List.getElem_toArray, List.getElem_cons_zero, List.getElem_cons_succ, List.setIfInBounds_toArray, List.set_cons_zero, List.set_cons_succ]
  refine wpAnyH_mono (S' := fun w' => Below wb.heap.size wb w') (fun _ hh => bstep0 hHeld hh) _ _ _ _ ?_
  replace hHeld : Below wb.heap.size wb wb := Below.refl _ _
  replace h := h.below hbN
  replace hIn := hIn.below hbN
  replace hB9 := bstep0 hB9 hbN
  clear hbN
  refine wpAnyH_ready (rs := [3]) (by kernel_rfl) (by simp) ?_
  refine AllReadyH.cons rfl (fun K hK => ?_) AllReadyH.nil
  go_simp
  refine (refCrc_any A n c l wb h (by omega)).mono ?_
  rintro ex wc ⟨rfl, hbN⟩
  dsimp only
  refine hK.out _ _ (bstep0 hHeld hbN) (fun hHeld => ?_)
  clear hK K
  try simp only [Act.put, List.getElem_toArray, List.getElem_cons_zero, List.getElem_cons_succ, List.setIfInBounds_toArray, List.set_cons_zero, List.set_cons_succ]
  refine wpAnyH_mono (S' := fun w' => Below wc.heap.size wc w') (fun _ hh => bstep0 hHeld hh) _ _ _ _ ?_
  replace hHeld : Below wc.heap.size wc wc := Below.refl _ _
  replace h := h.below hbN
  replace hIn := hIn.below hbN
  replace hB9 := bstep0 hB9 hbN
  clear hbN
  refine wpAnyH_take (i := 4) (v := ?_) rfl (by kernel_rfl) (by kernel_rfl) (by kernel_rfl) (fun _ _ _ h => h) (Or.inl ⟨by rfl, ?_⟩) hHeld ?_
  rotate_left
  · (intro w hSw; (try dsimp only at hSw); go_simp <;> rfl)
  simp only [Act.put, List.getElem_toArray, List.getElem_cons_zero, List.getElem_cons_succ, List.setIfInBounds_toArray, List.set_cons_zero, List.set_cons_succ]
  refine wpAnyH_take (i := 5) (v := ?_) rfl (by kernel_rfl) (by kernel_rfl) (by kernel_rfl) (fun _ _ _ h => h) (Or.inl ⟨by rfl, ?_⟩) hHeld ?_
  rotate_left
  · (intro w hSw; (try dsimp only at hSw); go_simp <;> rfl)
  simp only [Act.put, List.getElem_toArray, List.getElem_cons_zero, List.getElem_cons_succ, List.setIfInBounds_toArray, List.set_cons_zero, List.set_cons_succ]
  refine wpAnyH_take (i := 6) (v := ?_) rfl (by kernel_rfl) (by kernel_rfl) (by kernel_rfl) (fun _ _ _ h => h) (Or.inl ⟨by rfl, ?_⟩) hHeld ?_
  rotate_left
  · (intro w hSw; (try dsimp only at hSw); go_simp <;> rfl)
  simp only [Act.put, List.getElem_toArray, List.getElem_cons_zero, List.getElem_cons_succ, List.setIfInBounds_toArray, List.set_cons_zero, List.set_cons_succ]
  refine wpAnyH_take (i := 9) (v := ?_) rfl (by kernel_rfl) (by kernel_rfl) (by kernel_rfl) (fun _ _ _ h => h) (Or.inl ⟨by rfl, ?_⟩) hHeld ?_
  rotate_left
  · (intro w hSw; (try dsimp only at hSw); go_simp <;> rfl)
  simp only [Act.put, List.getElem_toArray, List.getElem_cons_zero, List.getElem_cons_succ, List.setIfInBounds_toArray, List.set_cons_zero, List.set_cons_succ]
  refine wpAnyH_ready (rs := [7]) (by kernel_rfl) (by simp) ?_
  refine AllReadyH.cons rfl (fun K hK => ?_) AllReadyH.nil
  go_simp
  refine (seal_any Ai n ci l wc hIn (by omega)).mono ?_
  rintro ex wd ⟨v1, rfl, ho1, hbN⟩
  obtain ⟨P1, m1, c1, rfl, hp1⟩ := own_slice ho1
  clear ho1
  dsimp only
  refine hK.out _ _ (bstep0 hHeld hbN) (fun hHeld => ?_)
  clear hK K
  try simp only [Act.put, List.getElem_toArray, List.getElem_cons_zero, List.getElem_cons_succ, List.setIfInBounds_toArray, List.set_cons_zero, List.set_cons_succ]
  refine wpAnyH_mono (S' := fun w' => Below wd.heap.size wd w') (fun _ hh => bstep0 hHeld hh) _ _ _ _ ?_
  replace hHeld : Below wd.heap.size wd wd := Below.refl _ _
  replace h := h.below hbN
  replace hIn := hIn.below hbN
  replace hB9 := bstep0 hB9 hbN
  clear hbN
  refine wpAnyH_take (i := 8) (v := ?_) rfl (by kernel_rfl) (by kernel_rfl) (by kernel_rfl) (fun _ _ _ h => h) (Or.inl ⟨by rfl, ?_⟩) hHeld ?_
  rotate_left
  · (intro wz hSw; (try dsimp only at hSw); have hcv := str_as wz (hp1.below hSw) HS1.out; clear hSw; go_simp <;> rfl)
  simp only [Act.put, List.getElem_toArray, List.getElem_cons_zero, List.getElem_cons_succ, List.setIfInBounds_toArray, List.set_cons_zero, List.set_cons_succ]
  clear hp1
  refine wpAnyH_ready (rs := [10]) (by kernel_rfl) (by simp) ?_
  refine AllReadyH.cons rfl (fun K hK => ?_) AllReadyH.nil
  go_simp
  refine (refSeal_any A n c l wd h (by omega)).mono ?_
  rintro ex we ⟨Q1, q1, d1, rfl, hq1, hbN⟩
  dsimp only
  refine hK.out _ _ (bstep0 hHeld hbN) (fun hHeld => ?_)
  clear hK K
  try simp only [Act.put, List.getElem_toArray, List.getElem_cons_zero, List.getElem_cons_succ, List.setIfInBounds_toArray, List.set_cons_zero, List.set_cons_succ]
  refine wpAnyH_mono (S' := fun w' => Below we.heap.size we w') (fun _ hh => bstep0 hHeld hh) _ _ _ _ ?_
  replace hHeld : Below we.heap.size we we := Below.refl _ _
  replace h := h.below hbN
  replace hIn := hIn.below hbN
  replace hB9 := bstep0 hB9 hbN
  clear hbN
  refine wpAnyH_take (i := 11) (v := ?_) rfl (by kernel_rfl) (by kernel_rfl) (by kernel_rfl) (fun _ _ _ h => h) (Or.inl ⟨by rfl, ?_⟩) hHeld ?_
  rotate_left
  · (intro wz hSw; (try dsimp only at hSw); have hcv := str_as wz (hq1.below hSw) HS1.out; clear hSw; go_simp <;> rfl)
  simp only [Act.put, List.getElem_toArray, List.getElem_cons_zero, List.getElem_cons_succ, List.setIfInBounds_toArray, List.set_cons_zero, List.set_cons_succ]
  clear hq1
  refine wpAnyH_take (i := 12) (v := ?_) rfl (by kernel_rfl) (by kernel_rfl) (by kernel_rfl) (fun _ _ _ h => h) (Or.inl ⟨by rfl, ?_⟩) hHeld ?_
  rotate_left
  · (intro w hSw; (try dsimp only at hSw); go_simp <;> rfl)
  simp only [Act.put, List.getElem_toArray, List.getElem_cons_zero, List.getElem_cons_succ, List.setIfInBounds_toArray, List.set_cons_zero, List.set_cons_succ]
  refine wpAnyH_take (i := 13) (v := ?_) rfl (by kernel_rfl) (by kernel_rfl) (by kernel_rfl) (fun _ _ _ h => h) (Or.inl ⟨by rfl, ?_⟩) hHeld ?_
  rotate_left
  · (intro w hSw; (try dsimp only at hSw); go_simp <;> rfl)
  simp only [Act.put, List.getElem_toArray, List.getElem_cons_zero, List.getElem_cons_succ, List.setIfInBounds_toArray, List.set_cons_zero, List.set_cons_succ]
  refine wpAnyH_take (i := 14) (v := ?_) rfl (by kernel_rfl) (by kernel_rfl) (by kernel_rfl) (fun _ _ _ h => h) (Or.inl ⟨by rfl, ?_⟩) hHeld ?_
  rotate_left
  · (intro w hSw; (try dsimp only at hSw); go_simp <;> rfl)
  simp only [Act.put, List.getElem_toArray, List.getElem_cons_zero, List.getElem_cons_succ, List.setIfInBounds_toArray, List.set_cons_zero, List.set_cons_succ]
  refine wpAnyH_take (i := 15) (v := ?_) rfl (by kernel_rfl) (by kernel_rfl) (by kernel_rfl) (fun _ _ _ h => h) (Or.inl ⟨by rfl, ?_⟩) hHeld ?_
  rotate_left
  · (intro w hSw; (try dsimp only at hSw); go_simp <;> rfl)
  simp only [Act.put, List.getElem_toArray, List.getElem_cons_zero, List.getElem_cons_succ, List.setIfInBounds_toArray, List.set_cons_zero, List.set_cons_succ]
  refine wpAnyH_take (i := 18) (v := ?_) rfl (by kernel_rfl) (by kernel_rfl) (by kernel_rfl) (fun _ _ _ h => h) (Or.inl ⟨by rfl, ?_⟩) hHeld ?_
  rotate_left
  · (intro w hSw; (try dsimp only at hSw); go_simp <;> rfl)
  simp only [Act.put, List.getElem_toArray, List.getElem_cons_zero, List.getElem_cons_succ, List.setIfInBounds_toArray, List.set_cons_zero, List.set_cons_succ]
  refine wpAnyH_ready (rs := [16]) (by kernel_rfl) (by simp) ?_
  refine AllReadyH.cons rfl (fun K hK => ?_) AllReadyH.nil
  go_simp
  refine (uint_nil x we hx).mono ?_
  rintro ex wf ⟨P2, m2, c2, rfl, hp2, _, hbN⟩
  dsimp only
  refine hK.out _ _ (bstep0 hHeld hbN) (fun hHeld => ?_)
  clear hK K
  try simp only [Act.put, List.getElem_toArray, List.getElem_cons_zero, List.getElem_cons_succ, List.setIfInBounds_toArray, List.set_cons_zero, List.set_cons_succ]
  refine wpAnyH_mono (S' := fun w' => Below wf.heap.size wf w') (fun _ hh => bstep0 hHeld hh) _ _ _ _ ?_
  replace hHeld : Below wf.heap.size wf wf := Below.refl _ _
  replace h := h.below hbN
  replace hIn := hIn.below hbN
  replace hB9 := bstep0 hB9 hbN
  clear hbN
  refine wpAnyH_take (i := 17) (v := ?_) rfl (by kernel_rfl) (by kernel_rfl) (by kernel_rfl) (fun _ _ _ h => h) (Or.inl ⟨by rfl, ?_⟩) hHeld ?_
  rotate_left
  · (intro wz hSw; (try dsimp only at hSw); have hcv := str_as wz (hp2.below hSw) HS2.out; clear hSw; go_simp <;> rfl)
  simp only [Act.put, List.getElem_toArray, List.getElem_cons_zero, List.getElem_cons_succ, List.setIfInBounds_toArray, List.set_cons_zero, List.set_cons_succ]
  clear hp2
  refine wpAnyH_ready (rs := [19]) (by kernel_rfl) (by simp) ?_
  refine AllReadyH.cons rfl (fun K hK => ?_) AllReadyH.nil
  go_simp
  refine (refUint_any none 0 0 x [] wf (IsB.nil _) (by omega) hx).mono ?_
  rintro ex wg ⟨Q2, q2, d2, rfl, hq2, hbN⟩
  rw [List.nil_append] at hq2
  dsimp only
  refine hK.out _ _ (bstep0 hHeld hbN) (fun hHeld => ?_)
  clear hK K
  try simp only [Act.put, List.getElem_toArray, List.getElem_cons_zero, List.getElem_cons_succ, List.setIfInBounds_toArray, List.set_cons_zero, List.set_cons_succ]
  refine wpAnyH_mono (S' := fun w' => Below wg.heap.size wg w') (fun _ hh => bstep0 hHeld hh) _ _ _ _ ?_
  replace hHeld : Below wg.heap.size wg wg := Below.refl _ _
  replace h := h.below hbN
  replace hIn := hIn.below hbN
  replace hB9 := bstep0 hB9 hbN
  clear hbN
  refine wpAnyH_take (i := 20) (v := ?_) rfl (by kernel_rfl) (by kernel_rfl) (by kernel_rfl) (fun _ _ _ h => h) (Or.inl ⟨by rfl, ?_⟩) hHeld ?_
  rotate_left
  · (intro wz hSw; (try dsimp only at hSw); have hcv := str_as wz (hq2.below hSw) HS2.out; clear hSw; go_simp <;> rfl)
  simp only [Act.put, List.getElem_toArray, List.getElem_cons_zero, List.getElem_cons_succ, List.setIfInBounds_toArray, List.set_cons_zero, List.set_cons_succ]
  clear hq2
  refine wpAnyH_take (i := 21) (v := ?_) rfl (by kernel_rfl) (by kernel_rfl) (by kernel_rfl) (fun _ _ _ h => h) (Or.inl ⟨by rfl, ?_⟩) hHeld ?_
  rotate_left
  · (intro w hSw; (try dsimp only at hSw); go_simp <;> rfl)
  simp only [Act.put, List.getElem_toArray, List.getElem_cons_zero, List.getElem_cons_succ, List.setIfInBounds_toArray, List.set_cons_zero, List.set_cons_succ]
  refine wpAnyH_take (i := 22) (v := ?_) rfl (by kernel_rfl) (by kernel_rfl) (by kernel_rfl) (fun _ _ _ h => h) (Or.inl ⟨by rfl, ?_⟩) hHeld ?_
  rotate_left
  · (intro w hSw; (try dsimp only at hSw); go_simp <;> rfl)
  simp only [Act.put, List.getElem_toArray, List.getElem_cons_zero, List.getElem_cons_succ, List.setIfInBounds_toArray, List.set_cons_zero, List.set_cons_succ]
  refine wpAnyH_take (i := 23) (v := ?_) rfl (by kernel_rfl) (by kernel_rfl) (by kernel_rfl) (fun _ _ _ h => h) (Or.inl ⟨by rfl, ?_⟩) hHeld ?_
  rotate_left
  · (intro w hSw; (try dsimp only at hSw); go_simp <;> rfl)
  simp only [Act.put, List.getElem_toArray, List.getElem_cons_zero, List.getElem_cons_succ, List.setIfInBounds_toArray, List.set_cons_zero, List.set_cons_succ]
  refine wpAnyH_take (i := 24) (v := ?_) rfl (by kernel_rfl) (by kernel_rfl) (by kernel_rfl) (fun _ _ _ h => h) (Or.inl ⟨by rfl, ?_⟩) hHeld ?_
  rotate_left
  · (intro w hSw; (try dsimp only at hSw); go_simp <;> rfl)
  simp only [Act.put, List.getElem_toArray, List.getElem_cons_zero, List.getElem_cons_succ, List.setIfInBounds_toArray, List.set_cons_zero, List.set_cons_succ]
  refine wpAnyH_take (i := 25) (v := ?_) rfl (by kernel_rfl) (by kernel_rfl) (by kernel_rfl) (fun _ _ _ h => h) (Or.inl ⟨by rfl, ?_⟩) hHeld ?_
  rotate_left
  · (intro w hSw; (try dsimp only at hSw); go_simp <;> rfl)
  simp only [Act.put, List.getElem_toArray, List.getElem_cons_zero, List.getElem_cons_succ, List.setIfInBounds_toArray, List.set_cons_zero, List.set_cons_succ]
  refine wpAnyH_take (i := 28) (v := ?_) rfl (by kernel_rfl) (by kernel_rfl) (by kernel_rfl) (fun _ _ _ h => h) (Or.inl ⟨by rfl, ?_⟩) hHeld ?_
  rotate_left
  · (intro w hSw; (try dsimp only at hSw); go_simp <;> rfl)
  simp only [Act.put, List.getElem_toArray, List.getElem_cons_zero, List.getElem_cons_succ, List.setIfInBounds_toArray, List.set_cons_zero, List.set_cons_succ]
  refine wpAnyH_take (i := 29) (v := ?_) rfl (by kernel_rfl) (by kernel_rfl) (by kernel_rfl) (fun _ _ _ h => h) (Or.inl ⟨by rfl, ?_⟩) hHeld ?_
  rotate_left
  · (intro w hSw; (try dsimp only at hSw); go_simp <;> rfl)
  simp only [Act.put, List.getElem_toArray, List.getElem_cons_zero, List.getElem_cons_succ, List.setIfInBounds_toArray, List.set_cons_zero, List.set_cons_succ]
  refine wpAnyH_ready (rs := [26]) (by kernel_rfl) (by simp) ?_
  refine AllReadyH.cons rfl (fun K hK => ?_) AllReadyH.nil
  go_simp
  refine (int_nil xi wg hxr.1 hxr.2).mono ?_
  rintro ex wh ⟨P3, m3, c3, rfl, hp3, _, hbN⟩
  dsimp only
  refine hK.out _ _ (bstep0 hHeld hbN) (fun hHeld => ?_)
  clear hK K
  try simp only [Act.put, List.getElem_toArray, List.getElem_cons_zero, List.getElem_cons_succ, List.setIfInBounds_toArray, List.set_cons_zero, List.set_cons_succ]
  refine wpAnyH_mono (S' := fun w' => Below wh.heap.size wh w') (fun _ hh => bstep0 hHeld hh) _ _ _ _ ?_
  replace hHeld : Below wh.heap.size wh wh := Below.refl _ _
  replace h := h.below hbN
  replace hIn := hIn.below hbN
  replace hB9 := bstep0 hB9 hbN
  clear hbN
  refine wpAnyH_take (i := 27) (v := ?_) rfl (by kernel_rfl) (by kernel_rfl) (by kernel_rfl) (fun _ _ _ h => h) (Or.inl ⟨by rfl, ?_⟩) hHeld ?_
  rotate_left
  · (intro wz hSw; (try dsimp only at hSw); have hcv := str_as wz (hp3.below hSw) HS3.out; clear hSw; go_simp <;> rfl)
  simp only [Act.put, List.getElem_toArray, List.getElem_cons_zero, List.getElem_cons_succ, List.setIfInBounds_toArray, List.set_cons_zero, List.set_cons_succ]
  clear hp3
  refine wpAnyH_ready (rs := [30]) (by kernel_rfl) (by simp) ?_
  refine AllReadyH.cons rfl (fun K hK => ?_) AllReadyH.nil
  go_simp
  refine (refInt_any none 0 0 xi [] wh (IsB.nil _) (by omega) hxr.1 hxr.2).mono ?_
  rintro ex wi ⟨Q3, q3, d3, rfl, hq3, hbN⟩
  rw [List.nil_append] at hq3
  dsimp only
  refine hK.out _ _ (bstep0 hHeld hbN) (fun hHeld => ?_)
  clear hK K
  try simp only [Act.put, List.getElem_toArray, List.getElem_cons_zero, List.getElem_cons_succ, List.setIfInBounds_toArray, List.set_cons_zero, List.set_cons_succ]
  refine wpAnyH_mono (S' := fun w' => Below wi.heap.size wi w') (fun _ hh => bstep0 hHeld hh) _ _ _ _ ?_
  replace hHeld : Below wi.heap.size wi wi := Below.refl _ _
  replace h := h.below hbN
  replace hIn := hIn.below hbN
  replace hB9 := bstep0 hB9 hbN
  clear hbN
  refine wpAnyH_take (i := 31) (v := ?_) rfl (by kernel_rfl) (by kernel_rfl) (by kernel_rfl) (fun _ _ _ h => h) (Or.inl ⟨by rfl, ?_⟩) hHeld ?_
  rotate_left
  · (intro wz hSw; (try dsimp only at hSw); have hcv := str_as wz (hq3.below hSw) HS3.out; clear hSw; go_simp <;> rfl)
  simp only [Act.put, List.getElem_toArray, List.getElem_cons_zero, List.getElem_cons_succ, List.setIfInBounds_toArray, List.set_cons_zero, List.set_cons_succ]
  clear hq3
  refine wpAnyH_take (i := 32) (v := ?_) rfl (by kernel_rfl) (by kernel_rfl) (by kernel_rfl) (fun _ _ _ h => h) (Or.inl ⟨by rfl, ?_⟩) hHeld ?_
  rotate_left
  · (intro w hSw; (try dsimp only at hSw); go_simp <;> rfl)
  simp only [Act.put, List.getElem_toArray, List.getElem_cons_zero, List.getElem_cons_succ, List.setIfInBounds_toArray, List.set_cons_zero, List.set_cons_succ]
  refine wpAnyH_take (i := 33) (v := ?_) rfl (by kernel_rfl) (by kernel_rfl) (by kernel_rfl) (fun _ _ _ h => h) (Or.inl ⟨by rfl, ?_⟩) hHeld ?_
  rotate_left
  · (intro w hSw; (try dsimp only at hSw); go_simp <;> rfl)
  simp only [Act.put, List.getElem_toArray, List.getElem_cons_zero, List.getElem_cons_succ, List.setIfInBounds_toArray, List.set_cons_zero, List.set_cons_succ]
  refine wpAnyH_take (i := 34) (v := ?_) rfl (by kernel_rfl) (by kernel_rfl) (by kernel_rfl) (fun _ _ _ h => h) (Or.inl ⟨by rfl, ?_⟩) hHeld ?_
  rotate_left
  · (intro w hSw; (try dsimp only at hSw); go_simp <;> rfl)
  simp only [Act.put, List.getElem_toArray, List.getElem_cons_zero, List.getElem_cons_succ, List.setIfInBounds_toArray, List.set_cons_zero, List.set_cons_succ]
  refine wpAnyH_take (i := 35) (v := ?_) rfl (by kernel_rfl) (by kernel_rfl) (by kernel_rfl) (fun _ _ _ h => h) (Or.inl ⟨by rfl, ?_⟩) hHeld ?_
  rotate_left
  · (intro w hSw; (try dsimp only at hSw); go_simp <;> rfl)
  simp only [Act.put, List.getElem_toArray, List.getElem_cons_zero, List.getElem_cons_succ, List.setIfInBounds_toArray, List.set_cons_zero, List.set_cons_succ]
  refine wpAnyH_take (i := 38) (v := ?_) rfl (by kernel_rfl) (by kernel_rfl) (by kernel_rfl) (fun _ _ _ h => h) (Or.inl ⟨by rfl, ?_⟩) hHeld ?_
  rotate_left
  · (intro w hSw; (try dsimp only at hSw); go_simp <;> rfl)
  simp only [Act.put, List.getElem_toArray, List.getElem_cons_zero, List.getElem_cons_succ, List.setIfInBounds_toArray, List.set_cons_zero, List.set_cons_succ]
  refine wpAnyH_ready (rs := [36]) (by kernel_rfl) (by simp) ?_
  refine AllReadyH.cons rfl (fun K hK => ?_) AllReadyH.nil
  go_simp
  refine (blob_any none 0 0 [] Ai n ci l wi (IsB.nil _) (by omega) hIn (by omega)).mono ?_
  rintro ex wj ⟨v4, rfl, ho4, hbN⟩
  rw [List.nil_append] at ho4
  obtain ⟨P4, m4, c4, rfl, hp4⟩ := own_slice ho4
  clear ho4
  dsimp only
  refine hK.out _ _ (bstep0 hHeld hbN) (fun hHeld => ?_)
  clear hK K
  try simp only [Act.put, List.getElem_toArray, List.getElem_cons_zero, List.getElem_cons_succ, List.setIfInBounds_toArray, List.set_cons_zero, List.set_cons_succ]
  refine wpAnyH_mono (S' := fun w' => Below wj.heap.size wj w') (fun _ hh => bstep0 hHeld hh) _ _ _ _ ?_
  replace hHeld : Below wj.heap.size wj wj := Below.refl _ _
  replace h := h.below hbN
  replace hIn := hIn.below hbN
  replace hB9 := bstep0 hB9 hbN
  clear hbN
  refine wpAnyH_take (i := 37) (v := ?_) rfl (by kernel_rfl) (by kernel_rfl) (by kernel_rfl) (fun _ _ _ h => h) (Or.inl ⟨by rfl, ?_⟩) hHeld ?_
  rotate_left
  · (intro wz hSw; (try dsimp only at hSw); have hcv := str_as wz (hp4.below hSw) HS4.out; clear hSw; go_simp <;> rfl)
  simp only [Act.put, List.getElem_toArray, List.getElem_cons_zero, List.getElem_cons_succ, List.setIfInBounds_toArray, List.set_cons_zero, List.set_cons_succ]
  clear hp4
  refine wpAnyH_ready (rs := [39]) (by kernel_rfl) (by simp) ?_
  refine AllReadyH.cons rfl (fun K hK => ?_) AllReadyH.nil
  go_simp
  refine (refBlob_any none 0 0 [] A n c l wj (IsB.nil _) (by omega) h (by omega)).mono ?_
  rintro ex wk ⟨Q4, q4, d4, rfl, hq4, hbN⟩
  rw [List.nil_append] at hq4
  dsimp only
  refine hK.out _ _ (bstep0 hHeld hbN) (fun hHeld => ?_)
  clear hK K
  try simp only [Act.put, List.getElem_toArray, List.getElem_cons_zero, List.getElem_cons_succ, List.setIfInBounds_toArray, List.set_cons_zero, List.set_cons_succ]
  refine wpAnyH_mono (S' := fun w' => Below wk.heap.size wk w') (fun _ hh => bstep0 hHeld hh) _ _ _ _ ?_
  replace hHeld : Below wk.heap.size wk wk := Below.refl _ _
  replace h := h.below hbN
  replace hIn := hIn.below hbN
  replace hB9 := bstep0 hB9 hbN
  clear hbN
  refine wpAnyH_take (i := 40) (v := ?_) rfl (by kernel_rfl) (by kernel_rfl) (by kernel_rfl) (fun _ _ _ h => h) (Or.inl ⟨by rfl, ?_⟩) hHeld ?_
  rotate_left
  · (intro wz hSw; (try dsimp only at hSw); have hcv := str_as wz (hq4.below hSw) HS4.out; clear hSw; go_simp <;> rfl)
  simp only [Act.put, List.getElem_toArray, List.getElem_cons_zero, List.getElem_cons_succ, List.setIfInBounds_toArray, List.set_cons_zero, List.set_cons_succ]
  clear hq4
  refine wpAnyH_take (i := 41) (v := ?_) rfl (by kernel_rfl) (by kernel_rfl) (by kernel_rfl) (fun _ _ _ h => h) (Or.inl ⟨by rfl, ?_⟩) hHeld ?_
  rotate_left
  · (intro w hSw; (try dsimp only at hSw); go_simp <;> rfl)
  simp only [Act.put, List.getElem_toArray, List.getElem_cons_zero, List.getElem_cons_succ, List.setIfInBounds_toArray, List.set_cons_zero, List.set_cons_succ]
  refine wpAnyH_take (i := 42) (v := ?_) rfl (by kernel_rfl) (by kernel_rfl) (by kernel_rfl) (fun _ _ _ h => h) (Or.inl ⟨by rfl, ?_⟩) hHeld ?_
  rotate_left
  · (intro w hSw; (try dsimp only at hSw); go_simp <;> rfl)
  simp only [Act.put, List.getElem_toArray, List.getElem_cons_zero, List.getElem_cons_succ, List.setIfInBounds_toArray, List.set_cons_zero, List.set_cons_succ]
  refine wpAnyH_done (by kernel_rfl) ?_ _
  clear hHeld
  go_wp2_with (at_builtin; refine wpList_putAny _ rfl _ _ 24 rfl 5 i0 Try.underlying24 hi hz0 hz1 hz2 wk.heap.size _ [] rfl (own_empty wk 5) A n c l rfl (h.alloc _) (by simp; omega) (by simp) ?_; rintro v5 wl ho5 hbN; rw [List.nil_append] at ho5)
  obtain ⟨Ao, co, rfl, hOut, _⟩ := own_is ho5
  rw [HL.out] at hOut ⊢
  have hbL := ((Below.refl wk.heap.size wk).alloc (Nat.le_refl _) (.cells #[] 5)).trans hbN
  replace h := h.below hbL
  replace hIn := hIn.below hbL
  replace hB9 := bstep0 hB9 hbL
  clear ho5 hbN hbL
  obtain ⟨s5, hs5⟩ : ∃ s : ByteArray, s = ⟨(l ++ uvarint x ++ uvarint n ++ l ++ uvarint (Lib.zigzag xi)).toArray⟩ := ⟨_, rfl⟩
  obtain ⟨s6, hs6⟩ : ∃ s : ByteArray, s = ⟨l.toArray⟩ := ⟨_, rfl⟩
  have HS5 := Lib.hid hs5
  have HS6 := Lib.hid hs6
  clear hs5 hs6
  replace h := h.drew
  replace hIn := hIn.drew
  replace hOut := hOut.drew
  replace hB9 := hB9.drew
  have hux := Lib.uvarint_length64 hx
  have hun := Lib.uvarint_length64 (x := n) (by omega)
  go_wp2_with fail
  refine wp_region_held_drew (S := fun w' => Below wl.drew.heap.size wl.drew w') (by kernel_rfl) (Below.refl _ _) (fun hHeld => ?_)
  generalize wl.drew = wl0 at h hIn hOut hB9 hHeld ⊢
  refine wpAnyH_take (i := 0) (v := ?_) rfl (by kernel_rfl) (by kernel_rfl) (by kernel_rfl) (fun _ _ _ h => h) (Or.inl ⟨by rfl, ?_⟩) hHeld ?_
  rotate_left
  · (intro w hSw; (try dsimp only at hSw); go_simp <;> rfl)
  simp only [Act.put, List.getElem_toArray, List.getElem_cons_zero, List.getElem_cons_succ, List.setIfInBounds_toArray, List.set_cons_zero, List.set_cons_succ]
  refine wpAnyH_take (i := 1) (v := ?_) rfl (by kernel_rfl) (by kernel_rfl) (by kernel_rfl) (fun _ _ _ h => h) (Or.inl ⟨by rfl, ?_⟩) hHeld ?_
  rotate_left
  · (intro w hSw; (try dsimp only at hSw); go_simp <;> rfl)
  simp only [Act.put, List.getElem_toArray, List.getElem_cons_zero, List.getElem_cons_succ, List.setIfInBounds_toArray, List.set_cons_zero, List.set_cons_succ]
  refine wpAnyH_take (i := 3) (v := ?_) rfl (by kernel_rfl) (by kernel_rfl) (by kernel_rfl) (fun _ _ _ h => h) (Or.inl ⟨by rfl, ?_⟩) hHeld ?_
  rotate_left
  · (intro w hSw; (try dsimp only at hSw); go_simp <;> rfl)
  simp only [Act.put, List.getElem_toArray, List.getElem_cons_zero, List.getElem_cons_succ, List.setIfInBounds_toArray, List.set_cons_zero, List.set_cons_succ]
  refine wpAnyH_take (i := 5) (v := ?_) rfl (by kernel_rfl) (by kernel_rfl) (by kernel_rfl) (fun _ _ _ h => h) (Or.inl ⟨by rfl, ?_⟩) hHeld ?_
  rotate_left
  · (intro w hSw; (try dsimp only at hSw); go_simp <;> rfl)
  simp only [Act.put, List.getElem_toArray, List.getElem_cons_zero, List.getElem_cons_succ, List.setIfInBounds_toArray, List.set_cons_zero, List.set_cons_succ]
  refine wpAnyH_take (i := 6) (v := ?_) rfl (by kernel_rfl) (by kernel_rfl) (by kernel_rfl) (fun _ _ _ h => h) (Or.inl ⟨by rfl, ?_⟩) hHeld ?_
  rotate_left
  · (intro w hSw; (try dsimp only at hSw); go_simp <;> rfl)
  simp only [Act.put, List.getElem_toArray, List.getElem_cons_zero, List.getElem_cons_succ, List.setIfInBounds_toArray, List.set_cons_zero, List.set_cons_succ]
  refine wpAnyH_take (i := 9) (v := ?_) rfl (by kernel_rfl) (by kernel_rfl) (by kernel_rfl) (fun _ _ _ h => h) (Or.inl ⟨by rfl, ?_⟩) hHeld ?_
  rotate_left
  · (intro w hSw; (try dsimp only at hSw); go_simp <;> rfl)
  simp only [Act.put, List.getElem_toArray, List.getElem_cons_zero, List.getElem_cons_succ, List.setIfInBounds_toArray, List.set_cons_zero, List.set_cons_succ]
  refine wpAnyH_take (i := 10) (v := ?_) rfl (by kernel_rfl) (by kernel_rfl) (by kernel_rfl) (fun _ _ _ h => h) (Or.inl ⟨by rfl, ?_⟩) hHeld ?_
  rotate_left
  · (intro w hSw; (try dsimp only at hSw); go_simp <;> rfl)
  simp only [Act.put, List.getElem_toArray, List.getElem_cons_zero, List.getElem_cons_succ, List.setIfInBounds_toArray, List.set_cons_zero, List.set_cons_succ]
  refine wpAnyH_take (i := 12) (v := ?_) rfl (by kernel_rfl) (by kernel_rfl) (by kernel_rfl) (fun _ _ _ h => h) (Or.inl ⟨by rfl, ?_⟩) hHeld ?_
  rotate_left
  · (intro w hSw; (try dsimp only at hSw); go_simp <;> rfl)
  simp only [Act.put, List.getElem_toArray, List.getElem_cons_zero, List.getElem_cons_succ, List.setIfInBounds_toArray, List.set_cons_zero, List.set_cons_succ]
  refine wpAnyH_take (i := 14) (v := ?_) rfl (by kernel_rfl) (by kernel_rfl) (by kernel_rfl) (fun _ _ _ h => h) (Or.inl ⟨by rfl, ?_⟩) hHeld ?_
  rotate_left
  · (intro w hSw; (try dsimp only at hSw); go_simp <;> rfl)
  simp only [Act.put, List.getElem_toArray, List.getElem_cons_zero, List.getElem_cons_succ, List.setIfInBounds_toArray, List.set_cons_zero, List.set_cons_succ]
  refine wpAnyH_take (i := 15) (v := ?_) rfl (by kernel_rfl) (by kernel_rfl) (by kernel_rfl) (fun _ _ _ h => h) (Or.inl ⟨by rfl, ?_⟩) hHeld ?_
  rotate_left
  · (intro w hSw; (try dsimp only at hSw); go_simp <;> rfl)
  simp only [Act.put, List.getElem_toArray, List.getElem_cons_zero, List.getElem_cons_succ, List.setIfInBounds_toArray, List.set_cons_zero, List.set_cons_succ]
  refine wpAnyH_ready (rs := [2]) (by kernel_rfl) (by simp) ?_
  refine AllReadyH.cons rfl (fun K hK => ?_) AllReadyH.nil
  go_simp
  refine (uint_any Ao n co x l wl0 hOut (by omega) hx).mono ?_
  rintro ex xb ⟨v5, rfl, ho5, hbN⟩
  obtain ⟨P5, m5, c5, rfl, hp5⟩ := own_slice ho5
  have hm5 : m5 ≤ n + 10 := by have e := hp5.len; rw [List.length_append, HL.out] at e; omega
  clear ho5 hOut
  dsimp only
  refine hK.out _ _ (bstep0 hHeld hbN) (fun hHeld => ?_)
  clear hK K
  try simp only [Act.put, List.getElem_toArray, List.getElem_cons_zero, List.getElem_cons_succ, List.setIfInBounds_toArray, List.set_cons_zero, List.set_cons_succ]
  refine wpAnyH_mono (S' := fun w' => Below xb.heap.size xb w') (fun _ hh => bstep0 hHeld hh) _ _ _ _ ?_
  replace hHeld : Below xb.heap.size xb xb := Below.refl _ _
  replace h := h.below hbN
  replace hIn := hIn.below hbN
  replace hB9 := bstep0 hB9 hbN
  clear hbN
  refine wpAnyH_ready (rs := [4]) (by kernel_rfl) (by simp) ?_
  refine AllReadyH.cons rfl (fun K hK => ?_) AllReadyH.nil
  go_simp
  refine (blob_any P5 m5 c5 (l ++ uvarint x) Ai n ci l xb hp5 (by omega) hIn (by omega)).mono ?_
  rintro ex xc ⟨v6, rfl, ho6, hbN⟩
  obtain ⟨P6, m6, c6, rfl, hp6⟩ := own_slice ho6
  have hm6 : m6 ≤ m5 + 10 + n := by have e := hp6.len; have e5 := hp5.len; rw [List.length_append, List.length_append, e5, HL.out] at e; omega
  clear ho6
  dsimp only
  refine hK.out _ _ (bstep0 hHeld hbN) (fun hHeld => ?_)
  clear hK K
  try simp only [Act.put, List.getElem_toArray, List.getElem_cons_zero, List.getElem_cons_succ, List.setIfInBounds_toArray, List.set_cons_zero, List.set_cons_succ]
  refine wpAnyH_mono (S' := fun w' => Below xc.heap.size xc w') (fun _ hh => bstep0 hHeld hh) _ _ _ _ ?_
  replace hHeld : Below xc.heap.size xc xc := Below.refl _ _
  replace h := h.below hbN
  replace hIn := hIn.below hbN
  replace hB9 := bstep0 hB9 hbN
  clear hbN
  clear hp5
  refine wpAnyH_ready (rs := [7]) (by kernel_rfl) (by simp) ?_
  refine AllReadyH.cons rfl (fun K hK => ?_) AllReadyH.nil
  go_simp
  refine (int_any P6 m6 c6 xi (l ++ uvarint x ++ uvarint n ++ l) xc hp6 (by omega) hxr.1 hxr.2).mono ?_
  rintro ex xd ⟨v7, rfl, ho7, hbN⟩
  obtain ⟨P7, m7, c7, rfl, hp7⟩ := own_slice ho7
  clear ho7
  dsimp only
  refine hK.out _ _ (bstep0 hHeld hbN) (fun hHeld => ?_)
  clear hK K
  try simp only [Act.put, List.getElem_toArray, List.getElem_cons_zero, List.getElem_cons_succ, List.setIfInBounds_toArray, List.set_cons_zero, List.set_cons_succ]
  refine wpAnyH_mono (S' := fun w' => Below xd.heap.size xd w') (fun _ hh => bstep0 hHeld hh) _ _ _ _ ?_
  replace hHeld : Below xd.heap.size xd xd := Below.refl _ _
  replace h := h.below hbN
  replace hIn := hIn.below hbN
  replace hB9 := bstep0 hB9 hbN
  clear hbN
  clear hp6
  refine wpAnyH_take (i := 8) (v := ?_) rfl (by kernel_rfl) (by kernel_rfl) (by kernel_rfl) (fun _ _ _ h => h) (Or.inl ⟨by rfl, ?_⟩) hHeld ?_
  rotate_left
  · (intro wz hSw; (try dsimp only at hSw); have hcv := str_as wz (hp7.below hSw) HS5.out; clear hSw; go_simp <;> rfl)
  simp only [Act.put, List.getElem_toArray, List.getElem_cons_zero, List.getElem_cons_succ, List.setIfInBounds_toArray, List.set_cons_zero, List.set_cons_succ]
  clear hp7
  refine wpAnyH_ready (rs := [11]) (by kernel_rfl) (by simp) ?_
  refine AllReadyH.cons rfl (fun K hK => ?_) AllReadyH.nil
  go_simp
  refine (refUint_any A n c x l xd h (by omega) hx).mono ?_
  rintro ex xe ⟨Q5, q5, d5, rfl, hq5, hbN⟩
  have hk5 : q5 ≤ n + 10 := by have e := hq5.len; rw [List.length_append, HL.out] at e; omega
  dsimp only
  refine hK.out _ _ (bstep0 hHeld hbN) (fun hHeld => ?_)
  clear hK K
  try simp only [Act.put, List.getElem_toArray, List.getElem_cons_zero, List.getElem_cons_succ, List.setIfInBounds_toArray, List.set_cons_zero, List.set_cons_succ]
  refine wpAnyH_mono (S' := fun w' => Below xe.heap.size xe w') (fun _ hh => bstep0 hHeld hh) _ _ _ _ ?_
  replace hHeld : Below xe.heap.size xe xe := Below.refl _ _
  replace h := h.below hbN
  replace hIn := hIn.below hbN
  replace hB9 := bstep0 hB9 hbN
  clear hbN
  refine wpAnyH_ready (rs := [13]) (by kernel_rfl) (by simp) ?_
  refine AllReadyH.cons rfl (fun K hK => ?_) AllReadyH.nil
  go_simp
  refine (refBlob_any Q5 q5 d5 (l ++ uvarint x) A n c l xe hq5 (by omega) h (by omega)).mono ?_
  rintro ex xf ⟨Q6, q6, d6, rfl, hq6, hbN⟩
  have hk6 : q6 ≤ q5 + 10 + n := by have e := hq6.len; have e5 := hq5.len; rw [List.length_append, List.length_append, e5, HL.out] at e; omega
  dsimp only
  refine hK.out _ _ (bstep0 hHeld hbN) (fun hHeld => ?_)
  clear hK K
  try simp only [Act.put, List.getElem_toArray, List.getElem_cons_zero, List.getElem_cons_succ, List.setIfInBounds_toArray, List.set_cons_zero, List.set_cons_succ]
  refine wpAnyH_mono (S' := fun w' => Below xf.heap.size xf w') (fun _ hh => bstep0 hHeld hh) _ _ _ _ ?_
  replace hHeld : Below xf.heap.size xf xf := Below.refl _ _
  replace h := h.below hbN
  replace hIn := hIn.below hbN
  replace hB9 := bstep0 hB9 hbN
  clear hbN
  clear hq5
  refine wpAnyH_ready (rs := [16]) (by kernel_rfl) (by simp) ?_
  refine AllReadyH.cons rfl (fun K hK => ?_) AllReadyH.nil
  go_simp
  refine (refInt_any Q6 q6 d6 xi (l ++ uvarint x ++ uvarint n ++ l) xf hq6 (by omega) hxr.1 hxr.2).mono ?_
  rintro ex xg ⟨Q7, q7, d7, rfl, hq7, hbN⟩
  dsimp only
  refine hK.out _ _ (bstep0 hHeld hbN) (fun hHeld => ?_)
  clear hK K
  try simp only [Act.put, List.getElem_toArray, List.getElem_cons_zero, List.getElem_cons_succ, List.setIfInBounds_toArray, List.set_cons_zero, List.set_cons_succ]
  refine wpAnyH_mono (S' := fun w' => Below xg.heap.size xg w') (fun _ hh => bstep0 hHeld hh) _ _ _ _ ?_
  replace hHeld : Below xg.heap.size xg xg := Below.refl _ _
  replace h := h.below hbN
  replace hIn := hIn.below hbN
  replace hB9 := bstep0 hB9 hbN
  clear hbN
  clear hq6
  refine wpAnyH_take (i := 17) (v := ?_) rfl (by kernel_rfl) (by kernel_rfl) (by kernel_rfl) (fun _ _ _ h => h) (Or.inl ⟨by rfl, ?_⟩) hHeld ?_
  rotate_left
  · (intro wz hSw; (try dsimp only at hSw); have hcv := str_as wz (hq7.below hSw) HS5.out; clear hSw; go_simp <;> rfl)
  simp only [Act.put, List.getElem_toArray, List.getElem_cons_zero, List.getElem_cons_succ, List.setIfInBounds_toArray, List.set_cons_zero, List.set_cons_succ]
  clear hq7
  refine wpAnyH_take (i := 18) (v := ?_) rfl (by kernel_rfl) (by kernel_rfl) (by kernel_rfl) (fun _ _ _ h => h) (Or.inl ⟨by rfl, ?_⟩) hHeld ?_
  rotate_left
  · (intro w hSw; (try dsimp only at hSw); go_simp <;> rfl)
  simp only [Act.put, List.getElem_toArray, List.getElem_cons_zero, List.getElem_cons_succ, List.setIfInBounds_toArray, List.set_cons_zero, List.set_cons_succ]
  refine wpAnyH_take (i := 19) (v := ?_) rfl (by kernel_rfl) (by kernel_rfl) (by kernel_rfl) (fun _ _ _ h => h) (Or.inl ⟨by rfl, ?_⟩) hHeld ?_
  rotate_left
  · (intro w hSw; (try dsimp only at hSw); go_simp <;> rfl)
  simp only [Act.put, List.getElem_toArray, List.getElem_cons_zero, List.getElem_cons_succ, List.setIfInBounds_toArray, List.set_cons_zero, List.set_cons_succ]
  refine wpAnyH_take (i := 20) (v := ?_) rfl (by kernel_rfl) (by kernel_rfl) (by kernel_rfl) (fun _ _ _ h => h) (Or.inl ⟨by rfl, ?_⟩) hHeld ?_
  rotate_left
  · (intro w hSw; (try dsimp only at hSw); go_simp <;> rfl)
  simp only [Act.put, List.getElem_toArray, List.getElem_cons_zero, List.getElem_cons_succ, List.setIfInBounds_toArray, List.set_cons_zero, List.set_cons_succ]
  refine wpAnyH_take (i := 22) (v := ?_) rfl (by kernel_rfl) (by kernel_rfl) (by kernel_rfl) (fun _ _ _ h => h) (Or.inl ⟨by rfl, ?_⟩) hHeld ?_
  rotate_left
  · (intro w hSw; (try dsimp only at hSw); go_simp <;> rfl)
  simp only [Act.put, List.getElem_toArray, List.getElem_cons_zero, List.getElem_cons_succ, List.setIfInBounds_toArray, List.set_cons_zero, List.set_cons_succ]
  refine wpAnyH_take (i := 21) (v := ?_) rfl (by kernel_rfl) (by kernel_rfl) (by kernel_rfl) (fun _ _ _ h => h) (Or.inl ⟨by rfl, ?_⟩) hHeld ?_
  rotate_left
  · (intro wz hSw; (try dsimp only at hSw); have hcv := str_as wz (hIn.below hSw) HS6.out; clear hSw; go_simp <;> rfl)
  simp only [Act.put, List.getElem_toArray, List.getElem_cons_zero, List.getElem_cons_succ, List.setIfInBounds_toArray, List.set_cons_zero, List.set_cons_succ]
  refine wpAnyH_take (i := 23) (v := ?_) rfl (by kernel_rfl) (by kernel_rfl) (by kernel_rfl) (fun _ _ _ h => h) (Or.inl ⟨by rfl, ?_⟩) hHeld ?_
  rotate_left
  · (intro wz hSw; (try dsimp only at hSw); have hcv := str_as wz (h.below hSw) HS6.out; clear hSw; go_simp <;> rfl)
  simp only [Act.put, List.getElem_toArray, List.getElem_cons_zero, List.getElem_cons_succ, List.setIfInBounds_toArray, List.set_cons_zero, List.set_cons_succ]
  refine wpAnyH_take (i := 24) (v := ?_) rfl (by kernel_rfl) (by kernel_rfl) (by kernel_rfl) (fun _ _ _ h => h) (Or.inl ⟨by rfl, ?_⟩) hHeld ?_
  rotate_left
  · (intro w hSw; (try dsimp only at hSw); go_simp <;> rfl)
  simp only [Act.put, List.getElem_toArray, List.getElem_cons_zero, List.getElem_cons_succ, List.setIfInBounds_toArray, List.set_cons_zero, List.set_cons_succ]
  refine wpAnyH_take (i := 25) (v := ?_) rfl (by kernel_rfl) (by kernel_rfl) (by kernel_rfl) (fun _ _ _ h => h) (Or.inl ⟨by rfl, ?_⟩) hHeld ?_
  rotate_left
  · (intro w hSw; (try dsimp only at hSw); go_simp <;> rfl)
  simp only [Act.put, List.getElem_toArray, List.getElem_cons_zero, List.getElem_cons_succ, List.setIfInBounds_toArray, List.set_cons_zero, List.set_cons_succ]
  refine wpAnyH_take (i := 26) (v := ?_) rfl (by kernel_rfl) (by kernel_rfl) (by kernel_rfl) (fun _ _ _ h => h) (Or.inl ⟨by rfl, ?_⟩) hHeld ?_
  rotate_left
  · (intro w hSw; (try dsimp only at hSw); go_simp <;> rfl)
  simp only [Act.put, List.getElem_toArray, List.getElem_cons_zero, List.getElem_cons_succ, List.setIfInBounds_toArray, List.set_cons_zero, List.set_cons_succ]
  refine wpAnyH_ready (rs := [27]) (by kernel_rfl) (by simp) ?_
  refine AllReadyH.cons rfl (fun K hK => ?_) AllReadyH.nil
  go_simp
  refine (awake_any xg).mono ?_
  rintro ex xh ⟨rfl, hbN⟩
  dsimp only
  refine hK.out _ _ (bstep0 hHeld hbN) (fun hHeld => ?_)
  clear hK K
  try simp only [Act.put, List.getElem_toArray, List.getElem_cons_zero, List.getElem_cons_succ, List.setIfInBounds_toArray, List.set_cons_zero, List.set_cons_succ]
  refine wpAnyH_mono (S' := fun w' => Below xh.heap.size xh w') (fun _ hh => bstep0 hHeld hh) _ _ _ _ ?_
  replace hHeld : Below xh.heap.size xh xh := Below.refl _ _
  replace h := h.below hbN
  replace hIn := hIn.below hbN
  replace hB9 := bstep0 hB9 hbN
  clear hbN
  refine wpAnyH_take (i := 28) (v := ?_) rfl (by kernel_rfl) (by kernel_rfl) (by kernel_rfl) (fun _ _ _ h => h) (Or.inl ⟨by rfl, ?_⟩) hHeld ?_
  rotate_left
  · (intro w hSw; (try dsimp only at hSw); go_simp <;> rfl)
  simp only [Act.put, List.getElem_toArray, List.getElem_cons_zero, List.getElem_cons_succ, List.setIfInBounds_toArray, List.set_cons_zero, List.set_cons_succ]
  refine wpAnyH_take (i := 29) (v := ?_) rfl (by kernel_rfl) (by kernel_rfl) (by kernel_rfl) (fun _ _ _ h => h) (Or.inl ⟨by rfl, ?_⟩) hHeld ?_
  rotate_left
  · (intro w hSw; (try dsimp only at hSw); go_simp <;> rfl)
  simp only [Act.put, List.getElem_toArray, List.getElem_cons_zero, List.getElem_cons_succ, List.setIfInBounds_toArray, List.set_cons_zero, List.set_cons_succ]
  refine wpAnyH_done (by kernel_rfl) ?_ _
  clear hHeld h hIn
  go_wp2_with fail
  go_ret
  exact ⟨rfl, hB9⟩
end Go.Proofs.Ytepdgldhaojmpaa.bytesTells
