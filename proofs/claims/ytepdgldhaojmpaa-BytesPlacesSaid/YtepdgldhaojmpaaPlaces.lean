/-
  BytesPlaces: the law's walk.
-/
import Derived.Test.YtepdgldhaojmpaaMine
set_option linter.unusedSimpArgs false
namespace Go.Proofs.Ytepdgldhaojmpaa.bytesPlaces
open Go.ChangeShapes Go.WideShapes Go.ChangeAt Go.RowKit
open Go.Lib (uvarint byteCells)
set_option linter.unusedVariables false

theorem cell_far {w : World} {p q : Addr} {v : Value} (h : w.cell? p = some v) (hne : p.block ≠ q.block) (u' : Value) : (w.setCell q u').cell? p = some v :=
  (World.cell?_setCell_other w q p u' (fun e => hne (by rw [e]))).trans h
theorem _root_.Go.Proofs.Ytepdgldhaojmpaa.IsB.front {w : World} {A : Option Addr} {n c : Nat} {l t : List UInt8} {k : Nat} (h : IsB w A (n + k) c (l ++ t)) (hl : l.length = n) : IsB w A n c l := by
  obtain ⟨hlen, hc, hnone, hsrc⟩ := h
  refine ⟨hl, by omega, hnone, ?_⟩
  rcases hsrc with h0 | ⟨b, o, hA, hcell⟩
  · exact .inl (List.append_eq_nil_iff.1 h0).1
  · exact .inr ⟨b, o, hA, fun j u hj => hcell j u (by rw [List.getElem?_append_left (List.getElem?_eq_some_iff.1 hj).1]; exact hj)⟩

theorem lists_ne {s t : ByteArray} (h : ¬ s = t) : (s.toList == t.toList) = false := by
  rw [Lib.toList_data, Lib.toList_data]
  exact beq_false_of_ne fun hh => h (bytes_inj hh)
theorem byte_wrap (a : Nat) (k : Nat) : IntKind.u8.wrap ((a : Int) / 2 ^ k) = ((a / 2 ^ k % 256 : Nat) : Int) := by
  have e : (a : Int) / 2 ^ k = ((a / 2 ^ k : Nat) : Int) := by rw [Int.natCast_ediv]; simp
  rw [e]
  simp [IntKind.wrap, IntKind.signed, IntKind.bits]
theorem byte_xor (z : UInt8) (a : Nat) (k : Nat) : ∃ u : UInt8, (u.toNat : Int) = bits .xor .u8 (z.toNat : Int) (IntKind.u8.wrap ((a : Int) / 2 ^ k)) := by
  rw [byte_wrap]
  have hx := z.toNat_lt
  have h2 : a / 2 ^ k % 256 < 256 := Nat.mod_lt _ (by decide)
  have hlt : z.toNat ^^^ (a / 2 ^ k % 256) < 256 := Nat.xor_lt_two_pow (n := 8) hx h2
  exact ⟨(z.toNat ^^^ (a / 2 ^ k % 256)).toUInt8, by rw [byte_toNat hlt, u8_xor_nat _ _ hx h2]⟩

set_option maxRecDepth 100000 in
set_option maxHeartbeats 2000000 in
theorem walk (A : Option Addr) (n c0 : Nat) (l : List UInt8) (a1 a2 a3 : Nat) (h1 : a1 < 65536) (h2 : a2 < 256) (h3 : a3 < 4294967296) (w : World) (h : IsB w A n c0 l) :
    Calls Try.prog 9 #[.slice A n c0, .int .u16 (a1 : Int), .int .u8 (a2 : Int), .int .u32 (a3 : Int)] w fun e w' => e = .returned (.bool true) ∧ Below w.heap.size w w' := by
  by_cases hn2 : n < 2
  · clear h
    go_enter Try.func9, Try.ntmps9
    go_wp2_with fail
    refine (awake_any _).mono ?_
    rintro e w1 ⟨rfl, hb⟩
    go_wp2_with fail
    go_ret
    exact ⟨rfl, hb⟩
  by_cases hn300 : 300 < n
  · clear h
    go_enter Try.func9, Try.ntmps9
    go_wp2_with fail
    refine (awake_any _).mono ?_
    rintro e w1 ⟨rfl, hb⟩
    go_wp2_with fail
    go_ret
    exact ⟨rfl, hb⟩
  have hl := h.len
  obtain ⟨K, hK⟩ : ∃ K : Nat, K = a1 % (n - 1) := ⟨_, rfl⟩
  have hK1 : K + 1 < n := by have := Nat.mod_lt a1 (show 0 < n - 1 by omega); omega
  have hKi : (a1 : Int) % ((n : Int) - 1) = (K : Int) := by rw [hK, Int.natCast_emod]; congr 1; omega
  have HK := Lib.hid hKi
  clear hK hKi
  have Hl := Lib.hid hl
  clear hl
  obtain ⟨i0, hi, hz0, hz1, hz2⟩ := info_parts infoByte
  go_enter Try.func9, Try.ntmps9
  go_wp2_with fail
  refine (seal_any A n c0 l _ h (by omega)).mono ?_
  rintro e w2 ⟨v, rfl, ho, hb2⟩
  have hslen : (l ++ sumBytes (crc l)).length = n + 4 := by rw [List.length_append, sumBytes_length, Hl.out]
  obtain ⟨g, c, rfl, hg1, hg2, hM⟩ := own_mine ho (by omega)
  rw [hslen]
  have hI : IsB w2 (some ⟨g, 0, none⟩) (n + 4) c (sealed l) := hM.is_ hslen
  replace h := h.below hb2
  have hB := hb2
  clear ho hb2 hM
  go_wp2_with fail
  have hP : IsB w2 (some ⟨g, 0, none⟩) n c l := hI.front Hl.out
  have hc1 := str_of w2.drew hP.drew
  have hc2 := str_of w2.drew h.drew
  generalize hgs : (⟨l.toArray⟩ : ByteArray) = sl at hc1 hc2
  clear hgs hP
  have hnc : n ≤ c := by have := hI.cap; omega
  have hw4 : IntKind.i64.wrap ((n : Int) + 4) = (n : Int) + 4 := IntWalk.i64_in _ (by omega)
  refine wp_region_held_drew (S := fun w' => (convert 24 9 (.slice (some ⟨g, 0, none⟩) n c)).run Try.prog w' = .ok (.string sl) w' ∧ (convert 24 9 (.slice A n c0)).run Try.prog w' = .ok (.string sl) w') (by kernel_rfl) ⟨hc1, hc2⟩ (fun hHeld => ?_)
  clear hc1 hc2
  refine wpAnyH_take (i := 0) (v := ?_) rfl (by kernel_rfl) (by kernel_rfl) (by kernel_rfl) (fun _ _ _ h => h) (Or.inl ⟨by rfl, ?_⟩) hHeld ?_
  rotate_left
  · (intro w hSw; (try dsimp only at hSw); go_simp <;> rfl)
  simp only [Act.put, List.getElem_toArray, List.getElem_cons_zero, List.getElem_cons_succ, List.setIfInBounds_toArray, List.set_cons_zero, List.set_cons_succ]
  refine wpAnyH_take (i := 1) (v := ?_) rfl (by kernel_rfl) (by kernel_rfl) (by kernel_rfl) (fun _ _ _ h => h) (Or.inl ⟨by rfl, ?_⟩) hHeld ?_
  rotate_left
  · (intro w hSw; (try dsimp only at hSw); go_simp <;> rfl)
  simp only [Act.put, List.getElem_toArray, List.getElem_cons_zero, List.getElem_cons_succ, List.setIfInBounds_toArray, List.set_cons_zero, List.set_cons_succ]
  refine wpAnyH_take (i := 2) (v := ?_) rfl (by kernel_rfl) (by kernel_rfl) (by kernel_rfl) (fun _ _ _ h => h) (Or.inl ⟨by rfl, ?_⟩) hHeld ?_
  rotate_left
  · (intro w hSw; (try dsimp only at hSw); go_simp <;> rfl)
  simp only [Act.put, List.getElem_toArray, List.getElem_cons_zero, List.getElem_cons_succ, List.setIfInBounds_toArray, List.set_cons_zero, List.set_cons_succ]
  refine wpAnyH_take (i := 3) (v := ?_) rfl (by kernel_rfl) (by kernel_rfl) (by kernel_rfl) (fun _ _ _ h => h) (Or.inl ⟨by rfl, ?_⟩) hHeld ?_
  rotate_left
  · (intro w hSw; (try dsimp only at hSw); go_simp <;> rfl)
  simp only [Act.put, List.getElem_toArray, List.getElem_cons_zero, List.getElem_cons_succ, List.setIfInBounds_toArray, List.set_cons_zero, List.set_cons_succ]
  refine wpAnyH_take (i := 4) (v := ?_) rfl (by kernel_rfl) (by kernel_rfl) (by kernel_rfl) (fun _ _ _ h => h) (Or.inl ⟨by rfl, ?_⟩) hHeld ?_
  rotate_left
  · (intro w hSw; (try dsimp only at hSw); go_simp <;> rfl)
  simp only [Act.put, List.getElem_toArray, List.getElem_cons_zero, List.getElem_cons_succ, List.setIfInBounds_toArray, List.set_cons_zero, List.set_cons_succ]
  refine wpAnyH_take (i := 5) (v := ?_) rfl (by kernel_rfl) (by kernel_rfl) (by kernel_rfl) (fun _ _ _ h => h) (Or.inl ⟨by rfl, ?_⟩) hHeld ?_
  rotate_left
  · (intro w hSw; (try dsimp only at hSw); go_simp <;> rfl)
  simp only [Act.put, List.getElem_toArray, List.getElem_cons_zero, List.getElem_cons_succ, List.setIfInBounds_toArray, List.set_cons_zero, List.set_cons_succ]
  refine wpAnyH_take (i := 6) (v := ?_) rfl (by kernel_rfl) (by kernel_rfl) (by kernel_rfl) (fun _ _ _ h => h) (Or.inl ⟨by rfl, ?_⟩) hHeld ?_
  rotate_left
  · (intro w hSw; (try dsimp only at hSw); go_simp <;> rfl)
  simp only [Act.put, List.getElem_toArray, List.getElem_cons_zero, List.getElem_cons_succ, List.setIfInBounds_toArray, List.set_cons_zero, List.set_cons_succ]
  refine wpAnyH_take (i := 7) (v := ?_) rfl (by kernel_rfl) (by kernel_rfl) (by kernel_rfl) (fun _ _ _ h => h) (Or.inl ⟨by rfl, ?_⟩) hHeld ?_
  rotate_left
  · (intro w hSw; (try dsimp only at hSw); go_simp <;> rfl)
  simp only [Act.put, List.getElem_toArray, List.getElem_cons_zero, List.getElem_cons_succ, List.setIfInBounds_toArray, List.set_cons_zero, List.set_cons_succ]
  refine wpAnyH_take (i := 8) (v := ?_) rfl (by kernel_rfl) (by kernel_rfl) (by kernel_rfl) (fun _ _ _ h => h) (Or.inl ⟨by rfl, ?_⟩) hHeld ?_
  rotate_left
  · (intro w hSw; (try dsimp only at hSw); go_simp <;> rfl)
  simp only [Act.put, List.getElem_toArray, List.getElem_cons_zero, List.getElem_cons_succ, List.setIfInBounds_toArray, List.set_cons_zero, List.set_cons_succ]
  refine wpAnyH_take (i := 9) (v := ?_) rfl (by kernel_rfl) (by kernel_rfl) (by kernel_rfl) (fun _ _ _ h => h) (Or.inl ⟨by rfl, ?_⟩) hHeld ?_
  rotate_left
  · (intro w hSw; (try dsimp only at hSw); go_simp <;> rfl)
  simp only [Act.put, List.getElem_toArray, List.getElem_cons_zero, List.getElem_cons_succ, List.setIfInBounds_toArray, List.set_cons_zero, List.set_cons_succ]
  refine wpAnyH_take (i := 10) (v := ?_) rfl (by kernel_rfl) (by kernel_rfl) (by kernel_rfl) (fun _ _ _ h => h) (Or.inl ⟨by rfl, ?_⟩) hHeld ?_
  rotate_left
  · (intro w hSw; (try dsimp only at hSw); go_simp <;> rfl)
  simp only [Act.put, List.getElem_toArray, List.getElem_cons_zero, List.getElem_cons_succ, List.setIfInBounds_toArray, List.set_cons_zero, List.set_cons_succ]
  refine wpAnyH_take (i := 11) (v := ?_) rfl (by kernel_rfl) (by kernel_rfl) (by kernel_rfl) (fun _ _ _ h => h) (Or.inl ⟨by rfl, ?_⟩) hHeld ?_
  rotate_left
  · (intro w hSw; (try dsimp only at hSw); go_simp <;> rfl)
  simp only [Act.put, List.getElem_toArray, List.getElem_cons_zero, List.getElem_cons_succ, List.setIfInBounds_toArray, List.set_cons_zero, List.set_cons_succ]
  refine wpAnyH_take (i := 12) (v := ?_) rfl (by kernel_rfl) (by kernel_rfl) (by kernel_rfl) (fun _ _ _ h => h) (Or.inl ⟨by rfl, ?_⟩) hHeld ?_
  rotate_left
  · (intro w hSw; (try dsimp only at hSw); go_simp <;> rfl)
  simp only [Act.put, List.getElem_toArray, List.getElem_cons_zero, List.getElem_cons_succ, List.setIfInBounds_toArray, List.set_cons_zero, List.set_cons_succ]
  refine wpAnyH_take (i := 13) (v := ?_) rfl (by kernel_rfl) (by kernel_rfl) (by kernel_rfl) (fun _ _ _ h => h) (Or.inl ⟨by rfl, ?_⟩) hHeld ?_
  rotate_left
  · (intro w hSw; (try dsimp only at hSw); go_simp <;> rfl)
  simp only [Act.put, List.getElem_toArray, List.getElem_cons_zero, List.getElem_cons_succ, List.setIfInBounds_toArray, List.set_cons_zero, List.set_cons_succ]
  refine wpAnyH_take (i := 14) (v := ?_) rfl (by kernel_rfl) (by kernel_rfl) (by kernel_rfl) (fun _ _ _ h => h) (Or.inl ⟨by rfl, ?_⟩) hHeld ?_
  rotate_left
  · (intro w hSw; (try dsimp only at hSw); go_simp <;> rfl)
  simp only [Act.put, List.getElem_toArray, List.getElem_cons_zero, List.getElem_cons_succ, List.setIfInBounds_toArray, List.set_cons_zero, List.set_cons_succ]
  refine wpAnyH_take (i := 15) (v := ?_) rfl (by kernel_rfl) (by kernel_rfl) (by kernel_rfl) (fun _ _ _ h => h) (Or.inl ⟨by rfl, ?_⟩) hHeld ?_
  rotate_left
  · (intro w hSw; (try dsimp only at hSw); go_simp <;> rfl)
  simp only [Act.put, List.getElem_toArray, List.getElem_cons_zero, List.getElem_cons_succ, List.setIfInBounds_toArray, List.set_cons_zero, List.set_cons_succ]
  refine wpAnyH_done (by kernel_rfl) ?_ _
  clear hHeld hw4
  replace hI := hI.drew
  replace h := h.drew
  replace hB := hB.drew
  replace hg2 : g < w2.drew.heap.size := hg2
  generalize w2.drew = w3 at hI h hB hg2 ⊢
  clear hnc
  go_wp2_with (first | (at_builtin; refine wpList_putAny _ rfl (.tmp 53) (.tmp 54) 24 rfl 5 i0 Try.underlying24 hi hz0 hz1 hz2 w3.heap.size _ [] rfl (own_empty w3 5) (some ⟨g, 0, none⟩) (n + 4) c (sealed l) rfl (hI.alloc _) (by simp; omega) (by simp) ?_; rintro v1 w4 ho1 hb1; rw [List.nil_append] at ho1; obtain ⟨g1, c1, rfl, hga1, hgb1, hM1⟩ := own_mine_at ho1 hslen (by omega); have hk1 := ((Below.refl w3.heap.size w3).alloc (Nat.le_refl _) (.cells #[] 5)).trans hb1; have hI4 := hI.below hk1; clear ho1 hb1) | (at_builtin; refine wpList_putAny _ rfl (.tmp 56) (.tmp 57) 24 rfl 5 i0 Try.underlying24 hi hz0 hz1 hz2 w4.heap.size _ [] rfl (own_empty w4 5) (some ⟨g, 0, none⟩) (n + 4) c (sealed l) rfl (hI4.alloc _) (by simp; omega) (by simp) ?_; rintro v2 w5 ho2 hb2; rw [List.nil_append] at ho2; obtain ⟨g2, c2, rfl, hga2, hgb2, hM2⟩ := own_mine_at ho2 hslen (by omega); have hk2 := ((Below.refl w4.heap.size w4).alloc (Nat.le_refl _) (.cells #[] 5)).trans hb2; have hI5 := hI4.below hk2; clear ho2 hb2) | (at_builtin; refine wpList_putAny _ rfl (.tmp 59) (.tmp 60) 24 rfl 5 i0 Try.underlying24 hi hz0 hz1 hz2 w5.heap.size _ [] rfl (own_empty w5 5) (some ⟨g, 0, none⟩) (n + 4) c (sealed l) rfl (hI5.alloc _) (by simp; omega) (by simp) ?_; rintro v3 w6 ho3 hb3; rw [List.nil_append] at ho3; obtain ⟨g3, c3, rfl, hga3, hgb3, hM3⟩ := own_mine_at ho3 hslen (by omega); have hk3 := ((Below.refl w5.heap.size w5).alloc (Nat.le_refl _) (.cells #[] 5)).trans hb3; have hI6 := hI5.below hk3; clear ho3 hb3))
  rw [HK.out]
  have hM1' := (hM1.below hk2).below hk3
  have hM2' := hM2.below hk3
  have hs4 := hk1.size
  have hs5 := hk2.size
  have hs6 := hk3.size
  have hBB : Below w3.heap.size w3 w6 := (hk1.trans (hk2.mono hs4)).trans (hk3.mono (Nat.le_trans hs4 hs5))
  clear hM1 hM2 hI4 hI5 hk1 hk2 hk3 HK
  have hKl : K + 1 < l.length := by rw [Hl.out]; exact hK1
  have hxK : (sealed l)[K]? = some l[K] := by unfold sealed; rw [List.getElem?_append_left (by omega)]; exact List.getElem?_eq_getElem _
  have hxK1 : (sealed l)[K + 1]? = some l[K + 1] := by unfold sealed; rw [List.getElem?_append_left hKl]; exact List.getElem?_eq_getElem _
  have hF1 := fair_swapped hKl
  have hF2 := fun u => fair_turned (l := l) (k := K) (by omega) u
  generalize l[K + 1] = y at hxK1 hF1
  generalize l[K] = x at hxK hF1
  have HF1 := Lib.hid hF1
  have HF2 := Lib.hid hF2
  clear hF1 hF2
  obtain ⟨b9, o9, hb9, hcell9⟩ : ∃ b o, (some (⟨g, 0, none⟩ : Addr)) = some ⟨b, o, none⟩ ∧ ∀ j u, (sealed l)[j]? = some u → w6.cell? ⟨b, o + j, none⟩ = some (.int .u8 (u.toNat : Int)) := by
    rcases hI6.src with h0 | h0
    · rw [h0] at hxK; simp at hxK
    · exact h0
  injection hb9 with hb9
  injection hb9 with hb9 ho9
  subst hb9
  subst ho9
  have g0 := hcell9 _ _ hxK
  have g1' := hcell9 _ _ hxK1
  rw [Nat.zero_add] at g0 g1'
  clear hcell9
  have f1 := hM1'.cell hxK
  have f2 := hM1'.free K
  have f3 := hM1'.cell hxK1
  have f4 := hM1'.free (K + 1)
  have e1 := hM2'.cell hxK
  have e2 := hM2'.free K
  have b0 : (0 : Int) ≤ (K : Int) := by omega
  have b1 : (K : Int) < (n : Int) + 4 := by omega
  have b2 : (K : Int) + 1 < (n : Int) + 4 := by omega
  have b3 : (0 : Int) ≤ (K : Int) + 1 := by omega
  have b4 : IntKind.i64.wrap ((K : Int) + 1) = (K : Int) + 1 := IntWalk.i64_in _ (by omega)
  have b5 : ((K : Int) + 1).toNat = K + 1 := by omega
  have hng : g ≠ g1 := by omega
  refine wp_region_held_drew (S := fun w' => w'.cell? ⟨g, K, none⟩ = some (.int .u8 (x.toNat : Int)) ∧ w'.cell? ⟨g, K + 1, none⟩ = some (.int .u8 (y.toNat : Int))) (by kernel_rfl) ⟨g0, g1'⟩ (fun hHeld => ?_)
  refine wpAnyH_take (i := 0) (v := ?_) rfl (by kernel_rfl) (by kernel_rfl) (by kernel_rfl) (fun _ _ _ h => h) (Or.inl ⟨by rfl, ?_⟩) hHeld ?_
  rotate_left
  · (intro w hSw; (try dsimp only at hSw); go_simp <;> rfl)
  simp only [Act.put, List.getElem_toArray, List.getElem_cons_zero, List.getElem_cons_succ, List.setIfInBounds_toArray, List.set_cons_zero, List.set_cons_succ]
  refine wpAnyH_take (i := 1) (v := ?_) rfl (by kernel_rfl) (by kernel_rfl) (by kernel_rfl) (fun _ _ _ h => h) (Or.inl ⟨by rfl, ?_⟩) hHeld ?_
  rotate_left
  · (intro w hSw; (try dsimp only at hSw); go_simp <;> rfl)
  simp only [Act.put, List.getElem_toArray, List.getElem_cons_zero, List.getElem_cons_succ, List.setIfInBounds_toArray, List.set_cons_zero, List.set_cons_succ]
  refine wpAnyH_take (i := 2) (v := ?_) rfl (by kernel_rfl) (by kernel_rfl) (by kernel_rfl) (fun _ _ _ h => h) (Or.inl ⟨by rfl, ?_⟩) hHeld ?_
  rotate_left
  · (intro w hSw; (try dsimp only at hSw); go_simp <;> rfl)
  simp only [Act.put, List.getElem_toArray, List.getElem_cons_zero, List.getElem_cons_succ, List.setIfInBounds_toArray, List.set_cons_zero, List.set_cons_succ]
  refine wpAnyH_take (i := 3) (v := ?_) rfl (by kernel_rfl) (by kernel_rfl) (by kernel_rfl) (fun _ _ _ h => h) (Or.inl ⟨by rfl, ?_⟩) hHeld ?_
  rotate_left
  · (intro w hSw; (try dsimp only at hSw); go_simp <;> rfl)
  simp only [Act.put, List.getElem_toArray, List.getElem_cons_zero, List.getElem_cons_succ, List.setIfInBounds_toArray, List.set_cons_zero, List.set_cons_succ]
  refine wpAnyH_take (i := 4) (v := ?_) rfl (by kernel_rfl) (by kernel_rfl) (by kernel_rfl) (fun _ _ _ h => h) (Or.inl ⟨by rfl, ?_⟩) hHeld ?_
  rotate_left
  · (intro w hSw; (try dsimp only at hSw); go_simp <;> rfl)
  simp only [Act.put, List.getElem_toArray, List.getElem_cons_zero, List.getElem_cons_succ, List.setIfInBounds_toArray, List.set_cons_zero, List.set_cons_succ]
  refine wpAnyH_take (i := 5) (v := ?_) rfl (by kernel_rfl) (by kernel_rfl) (by kernel_rfl) (fun _ _ _ h => h) (Or.inl ⟨by rfl, ?_⟩) hHeld ?_
  rotate_left
  · (intro w hSw; (try dsimp only at hSw); go_simp <;> rfl)
  simp only [Act.put, List.getElem_toArray, List.getElem_cons_zero, List.getElem_cons_succ, List.setIfInBounds_toArray, List.set_cons_zero, List.set_cons_succ]
  refine wpAnyH_take (i := 6) (v := ?_) rfl (by kernel_rfl) (by kernel_rfl) (by kernel_rfl) (fun _ _ _ h => h) (Or.inl ⟨by rfl, ?_⟩) hHeld ?_
  rotate_left
  · (intro w hSw; (try dsimp only at hSw); go_simp <;> rfl)
  simp only [Act.put, List.getElem_toArray, List.getElem_cons_zero, List.getElem_cons_succ, List.setIfInBounds_toArray, List.set_cons_zero, List.set_cons_succ]
  refine wpAnyH_take (i := 7) (v := ?_) rfl (by kernel_rfl) (by kernel_rfl) (by kernel_rfl) (fun _ _ _ h => h) (Or.inl ⟨by rfl, ?_⟩) hHeld ?_
  rotate_left
  · (intro w hSw; (try dsimp only at hSw); go_simp <;> rfl)
  simp only [Act.put, List.getElem_toArray, List.getElem_cons_zero, List.getElem_cons_succ, List.setIfInBounds_toArray, List.set_cons_zero, List.set_cons_succ]
  refine wpAnyH_take (i := 8) (v := ?_) rfl (by kernel_rfl) (by kernel_rfl) (by kernel_rfl) (fun _ _ _ h => h) (Or.inl ⟨by rfl, ?_⟩) hHeld ?_
  rotate_left
  · (intro w hSw; (try dsimp only at hSw); go_simp <;> rfl)
  simp only [Act.put, List.getElem_toArray, List.getElem_cons_zero, List.getElem_cons_succ, List.setIfInBounds_toArray, List.set_cons_zero, List.set_cons_succ]
  refine wpAnyH_take (i := 9) (v := ?_) rfl (by kernel_rfl) (by kernel_rfl) (by kernel_rfl) (fun _ _ _ h => h) (Or.inl ⟨by rfl, ?_⟩) hHeld ?_
  rotate_left
  · (intro w hSw; (try dsimp only at hSw); go_simp <;> rfl)
  simp only [Act.put, List.getElem_toArray, List.getElem_cons_zero, List.getElem_cons_succ, List.setIfInBounds_toArray, List.set_cons_zero, List.set_cons_succ]
  refine wpAnyH_take (i := 10) (v := ?_) rfl (by kernel_rfl) (by kernel_rfl) (by kernel_rfl) (fun _ _ _ h => h) (Or.inl ⟨by rfl, ?_⟩) hHeld ?_
  rotate_left
  · (intro w hSw; (try dsimp only at hSw); go_simp <;> rfl)
  simp only [Act.put, List.getElem_toArray, List.getElem_cons_zero, List.getElem_cons_succ, List.setIfInBounds_toArray, List.set_cons_zero, List.set_cons_succ]
  refine wpAnyH_take (i := 11) (v := ?_) rfl (by kernel_rfl) (by kernel_rfl) (by kernel_rfl) (fun _ _ _ h => h) (Or.inl ⟨by rfl, ?_⟩) hHeld ?_
  rotate_left
  · (intro w hSw; (try dsimp only at hSw); go_simp <;> rfl)
  simp only [Act.put, List.getElem_toArray, List.getElem_cons_zero, List.getElem_cons_succ, List.setIfInBounds_toArray, List.set_cons_zero, List.set_cons_succ]
  refine wpAnyH_take (i := 12) (v := ?_) rfl (by kernel_rfl) (by kernel_rfl) (by kernel_rfl) (fun _ _ _ h => h) (Or.inl ⟨by rfl, ?_⟩) hHeld ?_
  rotate_left
  · (intro w hSw; (try dsimp only at hSw); go_simp <;> rfl)
  simp only [Act.put, List.getElem_toArray, List.getElem_cons_zero, List.getElem_cons_succ, List.setIfInBounds_toArray, List.set_cons_zero, List.set_cons_succ]
  refine wpAnyH_take (i := 13) (v := ?_) rfl (by kernel_rfl) (by kernel_rfl) (by kernel_rfl) (fun _ _ _ h => h) (Or.inl ⟨by rfl, ?_⟩) hHeld ?_
  rotate_left
  · (intro w hSw; (try dsimp only at hSw); go_simp <;> rfl)
  simp only [Act.put, List.getElem_toArray, List.getElem_cons_zero, List.getElem_cons_succ, List.setIfInBounds_toArray, List.set_cons_zero, List.set_cons_succ]
  refine wpAnyH_take (i := 14) (v := ?_) rfl (by kernel_rfl) (by kernel_rfl) (by kernel_rfl) (fun _ _ _ h => h) (Or.inl ⟨by rfl, ?_⟩) hHeld ?_
  rotate_left
  · (intro w hSw; (try dsimp only at hSw); go_simp <;> rfl)
  simp only [Act.put, List.getElem_toArray, List.getElem_cons_zero, List.getElem_cons_succ, List.setIfInBounds_toArray, List.set_cons_zero, List.set_cons_succ]
  refine wpAnyH_ready (rs := [15]) (by kernel_rfl) (by simp) ?_
  refine AllReadyH.cons rfl (fun K hK => ?_) AllReadyH.nil
  go_simp
  refine hK.out _ _ ⟨cell_far hHeld.1 hng _, cell_far hHeld.2 hng _⟩ (fun hHeld => ?_)
  clear hK K
  try simp only [Act.put, List.getElem_toArray, List.getElem_cons_zero, List.getElem_cons_succ, List.setIfInBounds_toArray, List.set_cons_zero, List.set_cons_succ]
  refine wpAnyH_take (i := 16) (v := ?_) rfl (by kernel_rfl) (by kernel_rfl) (by kernel_rfl) (fun _ _ _ h => h) (Or.inl ⟨by rfl, ?_⟩) hHeld ?_
  rotate_left
  · (intro w hSw; (try dsimp only at hSw); go_simp <;> rfl)
  simp only [Act.put, List.getElem_toArray, List.getElem_cons_zero, List.getElem_cons_succ, List.setIfInBounds_toArray, List.set_cons_zero, List.set_cons_succ]
  refine wpAnyH_ready (rs := [17]) (by kernel_rfl) (by simp) ?_
  refine AllReadyH.cons rfl (fun K hK => ?_) AllReadyH.nil
  go_simp
  refine hK.out _ _ ⟨cell_far hHeld.1 hng _, cell_far hHeld.2 hng _⟩ (fun hHeld => ?_)
  clear hK K
  try simp only [Act.put, List.getElem_toArray, List.getElem_cons_zero, List.getElem_cons_succ, List.setIfInBounds_toArray, List.set_cons_zero, List.set_cons_succ]
  refine wpAnyH_done (by kernel_rfl) ?_ _
  clear hHeld f1 f2 f3 f4 e1 e2 g0 g1'
  have hR1 : Mine ((w6.setCell ⟨g1, K, none⟩ (.int .u8 (y.toNat : Int))).setCell ⟨g1, K + 1, none⟩ (.int .u8 (x.toNat : Int))).drew g1 5 c1 (((sealed l).set K y).set (K + 1) x) := ((hM1'.put K y _ rfl).put (K + 1) x _ rfl).drew
  have hR2 : Mine ((w6.setCell ⟨g1, K, none⟩ (.int .u8 (y.toNat : Int))).setCell ⟨g1, K + 1, none⟩ (.int .u8 (x.toNat : Int))).drew g2 5 c2 (sealed l) := ((hM2'.far (by simp; omega) _).far (by simp; omega) _).drew
  have hR3 : Mine ((w6.setCell ⟨g1, K, none⟩ (.int .u8 (y.toNat : Int))).setCell ⟨g1, K + 1, none⟩ (.int .u8 (x.toNat : Int))).drew g3 5 c3 (sealed l) := ((hM3.far (by simp; omega) _).far (by simp; omega) _).drew
  have hRB : Below w3.heap.size w3 ((w6.setCell ⟨g1, K, none⟩ (.int .u8 (y.toNat : Int))).setCell ⟨g1, K + 1, none⟩ (.int .u8 (x.toNat : Int))).drew := ((hBB.setCell (by simp; omega) _).setCell (by simp; omega) _).drew
  have hRs : w6.heap.size ≤ ((w6.setCell ⟨g1, K, none⟩ (.int .u8 (y.toNat : Int))).setCell ⟨g1, K + 1, none⟩ (.int .u8 (x.toNat : Int))).drew.heap.size := by simp [World.setCell, World.drew]
  generalize ((w6.setCell ⟨g1, K, none⟩ (.int .u8 (y.toNat : Int))).setCell ⟨g1, K + 1, none⟩ (.int .u8 (x.toNat : Int))).drew = w8 at hR1 hR2 hR3 hRB hRs ⊢
  clear hM3 hI6 hM1' hM2' hBB hng hxK1
  have e1 := hR2.cell hxK
  have e2 := hR2.free K
  obtain ⟨t, ht⟩ : ∃ t : UInt8, (t.toNat : Int) = bits .xor .u8 (x.toNat : Int) (a2 : Int) := by
    have hx := x.toNat_lt
    have hlt : x.toNat ^^^ a2 < 256 := Nat.xor_lt_two_pow (n := 8) hx h2
    exact ⟨(x.toNat ^^^ a2).toUInt8, by rw [byte_toNat hlt, u8_xor_nat _ _ hx h2]⟩
  have HT := Lib.hid ht
  clear ht
  have hS2 := hR2.put K t _ HT.out
  have hS1 := hR1.far (p := ⟨g2, K, none⟩) (by simp; omega) (.int .u8 (bits .xor .u8 (x.toNat : Int) (a2 : Int)))
  have hS3 := hR3.far (p := ⟨g2, K, none⟩) (by simp; omega) (.int .u8 (bits .xor .u8 (x.toNat : Int) (a2 : Int)))
  have hSB := hRB.setCell (p := ⟨g2, K, none⟩) (by simp; omega) (.int .u8 (bits .xor .u8 (x.toNat : Int) (a2 : Int)))
  have HG2 := Lib.hid (HF2.out t)
  clear hR1 hR2 hR3 hRB hxK
  go_wp2_with fail
  have hSs : w6.heap.size ≤ (w8.setCell ⟨g2, K, none⟩ (.int .u8 (bits .xor .u8 (x.toNat : Int) (a2 : Int)))).heap.size := by simpa [World.setCell] using hRs
  clear hRs
  generalize w8.setCell ⟨g2, K, none⟩ (.int .u8 (bits .xor .u8 (x.toNat : Int) (a2 : Int))) = w9 at hS1 hS2 hS3 hSB hSs ⊢
  go_loopw [85] (fun q wr => ∃ (i : Nat) (T : List UInt8), q = .int .i64 (i : Int) ∧ i ≤ 4 ∧ T.length = 4 ∧ Mine wr g1 5 c1 (((sealed l).set K y).set (K + 1) x) ∧ Mine wr g2 5 c2 ((sealed l).set K t) ∧ Mine wr g3 5 c3 (l ++ T) ∧ Below w3.heap.size w3 wr ∧ w6.heap.size ≤ wr.heap.size) (fun q _ => 4 - (intOf q).toNat)
  case atStart => exact ⟨0, sumBytes (crc l), rfl, by omega, sumBytes_length _, hS1, hS2, hS3, hSB, hSs⟩
  case round =>
    clear hS1 hS2 hS3 hSB hSs
    obtain ⟨j, T, rfl, hj, hT, hS1, hS2, hS3, hSB, hSs⟩ := hrel
    by_cases hj4 : j < 4
    · have hjd : decide ((j : Int) < 4) = true := by simp; omega
      obtain ⟨z, hz⟩ : ∃ z, (l ++ T)[n + j]? = some z := ⟨T[j]'(by omega), by rw [List.getElem?_append_right (by rw [Hl.out]; omega), Hl.out, Nat.add_sub_cancel_left, List.getElem?_eq_getElem (by omega)]⟩
      have f1 := hS3.cell hz
      have f2 := hS3.free (n + j)
      have hwj : IntKind.i64.wrap ((n : Int) + (j : Int)) = (n : Int) + (j : Int) := IntWalk.i64_in _ (by omega)
      have hb1 : (j : Int) < 4 := by omega
      have hb0 : 0 ≤ (n : Int) + (j : Int) := by omega
      have hbt : ((n : Int) + (j : Int)).toNat = n + j := by omega
      have hw8 : IntKind.i64.wrap (8 * (j : Int)) = 8 * (j : Int) := IntWalk.i64_in _ (by omega)
      go_wp2_with fail
      refine wp_region_held_drew (S := fun _ => True) (by kernel_rfl) trivial (fun hHeld => ?_)
      refine wpAnyH_take (i := 0) (v := ?_) rfl (by kernel_rfl) (by kernel_rfl) (by kernel_rfl) (fun _ _ _ h => h) (Or.inl ⟨by rfl, ?_⟩) hHeld ?_
      rotate_left
      · (intro w hSw; (try dsimp only at hSw); go_simp <;> rfl)
      simp only [Act.put, List.getElem_toArray, List.getElem_cons_zero, List.getElem_cons_succ, List.setIfInBounds_toArray, List.set_cons_zero, List.set_cons_succ]
      refine wpAnyH_take (i := 1) (v := ?_) rfl (by kernel_rfl) (by kernel_rfl) (by kernel_rfl) (fun _ _ _ h => h) (Or.inl ⟨by rfl, ?_⟩) hHeld ?_
      rotate_left
      · (intro w hSw; (try dsimp only at hSw); go_simp <;> rfl)
      simp only [Act.put, List.getElem_toArray, List.getElem_cons_zero, List.getElem_cons_succ, List.setIfInBounds_toArray, List.set_cons_zero, List.set_cons_succ]
      refine wpAnyH_take (i := 2) (v := ?_) rfl (by kernel_rfl) (by kernel_rfl) (by kernel_rfl) (fun _ _ _ h => h) (Or.inl ⟨by rfl, ?_⟩) hHeld ?_
      rotate_left
      · (intro w hSw; (try dsimp only at hSw); go_simp <;> rfl)
      simp only [Act.put, List.getElem_toArray, List.getElem_cons_zero, List.getElem_cons_succ, List.setIfInBounds_toArray, List.set_cons_zero, List.set_cons_succ]
      refine wpAnyH_take (i := 3) (v := ?_) rfl (by kernel_rfl) (by kernel_rfl) (by kernel_rfl) (fun _ _ _ h => h) (Or.inl ⟨by rfl, ?_⟩) hHeld ?_
      rotate_left
      · (intro w hSw; (try dsimp only at hSw); go_simp <;> rfl)
      simp only [Act.put, List.getElem_toArray, List.getElem_cons_zero, List.getElem_cons_succ, List.setIfInBounds_toArray, List.set_cons_zero, List.set_cons_succ]
      refine wpAnyH_take (i := 4) (v := ?_) rfl (by kernel_rfl) (by kernel_rfl) (by kernel_rfl) (fun _ _ _ h => h) (Or.inl ⟨by rfl, ?_⟩) hHeld ?_
      rotate_left
      · (intro w hSw; (try dsimp only at hSw); go_simp <;> rfl)
      simp only [Act.put, List.getElem_toArray, List.getElem_cons_zero, List.getElem_cons_succ, List.setIfInBounds_toArray, List.set_cons_zero, List.set_cons_succ]
      refine wpAnyH_take (i := 5) (v := ?_) rfl (by kernel_rfl) (by kernel_rfl) (by kernel_rfl) (fun _ _ _ h => h) (Or.inl ⟨by rfl, ?_⟩) hHeld ?_
      rotate_left
      · (intro w hSw; (try dsimp only at hSw); go_simp <;> rfl)
      simp only [Act.put, List.getElem_toArray, List.getElem_cons_zero, List.getElem_cons_succ, List.setIfInBounds_toArray, List.set_cons_zero, List.set_cons_succ]
      refine wpAnyH_take (i := 7) (v := ?_) rfl (by kernel_rfl) (by kernel_rfl) (by kernel_rfl) (fun _ _ _ h => h) (Or.inl ⟨by rfl, ?_⟩) hHeld ?_
      rotate_left
      · (intro w hSw; (try dsimp only at hSw); go_simp <;> rfl)
      simp only [Act.put, List.getElem_toArray, List.getElem_cons_zero, List.getElem_cons_succ, List.setIfInBounds_toArray, List.set_cons_zero, List.set_cons_succ]
      refine wpAnyH_take (i := 8) (v := ?_) rfl (by kernel_rfl) (by kernel_rfl) (by kernel_rfl) (fun _ _ _ h => h) (Or.inl ⟨by rfl, ?_⟩) hHeld ?_
      rotate_left
      · (intro w hSw; (try dsimp only at hSw); go_simp <;> rfl)
      simp only [Act.put, List.getElem_toArray, List.getElem_cons_zero, List.getElem_cons_succ, List.setIfInBounds_toArray, List.set_cons_zero, List.set_cons_succ]
      refine wpAnyH_take (i := 9) (v := ?_) rfl (by kernel_rfl) (by kernel_rfl) (by kernel_rfl) (fun _ _ _ h => h) (Or.inl ⟨by rfl, ?_⟩) hHeld ?_
      rotate_left
      · (intro w hSw; (try dsimp only at hSw); go_simp <;> rfl)
      simp only [Act.put, List.getElem_toArray, List.getElem_cons_zero, List.getElem_cons_succ, List.setIfInBounds_toArray, List.set_cons_zero, List.set_cons_succ]
      refine wpAnyH_take (i := 10) (v := ?_) rfl (by kernel_rfl) (by kernel_rfl) (by kernel_rfl) (fun _ _ _ h => h) (Or.inl ⟨by rfl, ?_⟩) hHeld ?_
      rotate_left
      · (intro w hSw; (try dsimp only at hSw); go_simp <;> rfl)
      simp only [Act.put, List.getElem_toArray, List.getElem_cons_zero, List.getElem_cons_succ, List.setIfInBounds_toArray, List.set_cons_zero, List.set_cons_succ]
      refine wpAnyH_take (i := 11) (v := ?_) rfl (by kernel_rfl) (by kernel_rfl) (by kernel_rfl) (fun _ _ _ h => h) (Or.inl ⟨by rfl, ?_⟩) hHeld ?_
      rotate_left
      · (intro w hSw; (try dsimp only at hSw); go_simp <;> rfl)
      simp only [Act.put, List.getElem_toArray, List.getElem_cons_zero, List.getElem_cons_succ, List.setIfInBounds_toArray, List.set_cons_zero, List.set_cons_succ]
      refine wpAnyH_ready (rs := [6]) (by kernel_rfl) (by simp) ?_
      refine AllReadyH.cons rfl (fun K hK => ?_) AllReadyH.nil
      go_simp
      refine hK.out _ _ trivial (fun hHeld => ?_)
      clear hK K
      try simp only [Act.put, List.getElem_toArray, List.getElem_cons_zero, List.getElem_cons_succ, List.setIfInBounds_toArray, List.set_cons_zero, List.set_cons_succ]
      refine wpAnyH_take (i := 12) (v := ?_) rfl (by kernel_rfl) (by kernel_rfl) (by kernel_rfl) (fun _ _ _ h => h) (Or.inl ⟨by rfl, ?_⟩) hHeld ?_
      rotate_left
      · (intro w hSw; (try dsimp only at hSw); go_simp <;> rfl)
      simp only [Act.put, List.getElem_toArray, List.getElem_cons_zero, List.getElem_cons_succ, List.setIfInBounds_toArray, List.set_cons_zero, List.set_cons_succ]
      refine wpAnyH_take (i := 13) (v := ?_) rfl (by kernel_rfl) (by kernel_rfl) (by kernel_rfl) (fun _ _ _ h => h) (Or.inl ⟨by rfl, ?_⟩) hHeld ?_
      rotate_left
      · (intro w hSw; (try dsimp only at hSw); go_simp <;> rfl)
      simp only [Act.put, List.getElem_toArray, List.getElem_cons_zero, List.getElem_cons_succ, List.setIfInBounds_toArray, List.set_cons_zero, List.set_cons_succ]
      refine wpAnyH_ready (rs := [14]) (by kernel_rfl) (by simp) ?_
      refine AllReadyH.cons rfl (fun K hK => ?_) AllReadyH.nil
      go_simp
      refine hK.out _ _ trivial (fun hHeld => ?_)
      clear hK K
      try simp only [Act.put, List.getElem_toArray, List.getElem_cons_zero, List.getElem_cons_succ, List.setIfInBounds_toArray, List.set_cons_zero, List.set_cons_succ]
      refine wpAnyH_done (by kernel_rfl) ?_ _
      clear hHeld f1 f2 hwj hb0 hbt hw8
      obtain ⟨u, hu⟩ := byte_xor z a3 (8 * (j : Int)).toNat
      have HU := Lib.hid hu
      clear hu
      go_wp2_with fail
      go_roundw
      case rel =>
        refine ⟨j + 1, T.set j u, by go_num, by omega, by rw [List.length_set]; exact hT, (hS1.far (by simp; omega) _).drew, (hS2.far (by simp; omega) _).drew, ?_, (hSB.setCell (by simp; omega) _).drew, by simpa [World.setCell, World.drew] using hSs⟩
        have hp := hS3.put (n + j) u _ HU.out
        rw [List.set_append_right _ _ (by rw [Hl.out]; omega), Hl.out, Nat.add_sub_cancel_left] at hp
        exact hp.drew
      case measure => simp [intOf]; omega
    · obtain rfl : j = 4 := by omega
      go_wp2_with fail
      have hX1 := hS1.is_ (n := n + 4) (by rw [List.length_set, List.length_set]; exact hslen)
      have hX2 := hS2.is_ (n := n + 4) (by rw [List.length_set]; exact hslen)
      have hX3 := hS3.is_ (n := n + 4) (by rw [List.length_append, Hl.out, hT])
      have hF3 : Fair l (l ++ T) := fair_sum hT
      have hF1 := HF1.out
      have hF2 := HG2.out
      have hII := hI.below hSB
      have hhh := h.below hSB
      have hBB := bstep0 hB hSB
      clear hS1 hS2 hS3 hSB hSs hT HF1 HG2 hI h hB HT
      go_loopw [107] (fun q wz => ∃ i : Nat, q = .int .i64 (i : Int) ∧ i ≤ 3 ∧ IsB wz (some ⟨g1, 0, none⟩) (n + 4) c1 (((sealed l).set K y).set (K + 1) x) ∧ IsB wz (some ⟨g2, 0, none⟩) (n + 4) c2 ((sealed l).set K t) ∧ IsB wz (some ⟨g3, 0, none⟩) (n + 4) c3 (l ++ T) ∧ IsB wz (some ⟨g, 0, none⟩) (n + 4) c (sealed l) ∧ IsB wz A n c0 l ∧ Below w.heap.size w wz) (fun q _ => 3 - (intOf q).toNat)
      case atStart => exact ⟨0, rfl, by omega, hX1, hX2, hX3, hII, hhh, hBB⟩
      case round =>
        clear hX1 hX2 hX3 hII hhh hBB
        obtain ⟨j, rfl, hj, hX1, hX2, hX3, hI, h, hB⟩ := hrel
        by_cases hj3 : j < 3
        · have hjd : decide ((j : Int) < 3) = true := by simp; omega
          obtain ⟨G, C, X, hix, hXI, hXF⟩ : ∃ G C X, (Instr.index 60 (.agg #[Value.slice (some ⟨g1, 0, none⟩) (n + 4) c1, Value.slice (some ⟨g2, 0, none⟩) (n + 4) c2, Value.slice (some ⟨g3, 0, none⟩) (n + 4) c3]) (.int .i64 (j : Int))).run Try.prog wr = .ok (Value.slice (some ⟨G, 0, none⟩) (n + 4) C) wr ∧ IsB wr (some ⟨G, 0, none⟩) (n + 4) C X ∧ Fair l X := by
            rcases (show j = 0 ∨ j = 1 ∨ j = 2 by omega) with rfl | rfl | rfl
            · exact ⟨g1, c1, _, rfl, hX1, hF1⟩
            · exact ⟨g2, c2, _, rfl, hX2, hF2⟩
            · exact ⟨g3, c3, _, rfl, hX3, hF3⟩
          rcases hXF with ⟨hXl, rfl | ⟨hno, hne⟩⟩
          · go_wp2_with fail
            refine (unseal_any _ _ _ (sealed l) _ hXI (by omega)).mono ?_
            rintro e wu ⟨hop, hbu⟩
            rcases hop with ⟨body, v, hbody, rfl, hown⟩ | ⟨hno, _⟩
            rotate_left
            · exact absurd rfl (hno l)
            obtain rfl := sealed_inj hbody
            obtain ⟨Ai, mi, ci, rfl, hin⟩ := own_slice hown
            have hB1 := bstep0 hB hbu
            replace hXI := hXI.below hbu
            replace hX1 := hX1.below hbu
            replace hX2 := hX2.below hbu
            replace hX3 := hX3.below hbu
            replace hI := hI.below hbu
            replace h := h.below hbu
            clear hown hbu hB hbody
            have hcx := str_of wu hXI
            have hcs := str_of wu hI
            have hcn := str_of wu hin
            have hcb := str_of wu h
            generalize hgl : (⟨(sealed l).toArray⟩ : ByteArray) = ss at hcx hcs
            generalize hgl2 : (⟨l.toArray⟩ : ByteArray) = sb at hcn hcb
            clear hgl hgl2
            go_wp2_with fail
            go_roundw
            case rel => first | exact ⟨j + 1, by go_num, by omega, hX1, hX2, hX3, hI, h, hB1⟩ | ((repeat apply Exists.intro); exact ⟨⟨j + 1, by go_num, by omega, hX1, hX2, hX3, hI, h, hB1⟩, rfl⟩)
            case measure => simp [intOf]; omega
          · go_wp2_with fail
            refine (unseal_any _ _ _ X _ hXI (by omega)).mono ?_
            rintro e wu ⟨hop, hbu⟩
            rcases hop with ⟨body, v, hbody, rfl, hown⟩ | ⟨_, rfl⟩
            · exact absurd hbody (hno body)
            rw [if_neg (by omega)]
            have hB1 := bstep0 hB hbu
            replace hXI := hXI.below hbu
            replace hX1 := hX1.below hbu
            replace hX2 := hX2.below hbu
            replace hX3 := hX3.below hbu
            replace hI := hI.below hbu
            replace h := h.below hbu
            clear hbu hB
            have hcx := str_of wu hXI
            have hcs := str_of wu hI
            have hsne : ¬ (⟨X.toArray⟩ : ByteArray) = ⟨(sealed l).toArray⟩ := fun hh => hne (by injection hh with hh; injection hh)
            have hsl := lists_ne hsne
            generalize hgl : (⟨(sealed l).toArray⟩ : ByteArray) = ss at hcs hsne hsl
            generalize hgl2 : (⟨X.toArray⟩ : ByteArray) = sx at hcx hsne hsl
            clear hgl hgl2
            go_wp2_with fail
            go_roundw
            case rel => first | exact ⟨j + 1, by go_num, by omega, hX1, hX2, hX3, hI, h, hB1⟩ | ((repeat apply Exists.intro); exact ⟨⟨j + 1, by go_num, by omega, hX1, hX2, hX3, hI, h, hB1⟩, rfl⟩)
            case measure => simp [intOf]; omega
        · obtain rfl : j = 3 := by omega
          clear hX1 hX2 hX3 hI h
          go_wp2_with fail
          refine (awake_any _).mono ?_
          rintro e w1 ⟨rfl, hb⟩
          have hBz := bstep0 hB hb
          go_wp2_with fail
          go_ret
          exact ⟨rfl, hBz⟩
end Go.Proofs.Ytepdgldhaojmpaa.bytesPlaces
