/-
  Unseal: what was sealed, or why not.
-/
import Derived.Test.YtiockkphciadeaaWithin
import Derived.Test.YtiockkphciadeaaEq4
import Derived.Deep.QuietTactic
import Derived.BigQuiet
set_option linter.unusedSimpArgs false
namespace Go.Proofs.Ytiockkphciadeaa
open Go.RowKit
open Go.Lib (byteCells byteCells_length byteCells_append uvarint)

theorem unseal_short (A : Option Addr) (n c : Nat) (w : World) (h4 : n < 4) :
    Calls Try.prog 80 #[.slice A n c] w fun e w' => e = .returned (.tuple #[.slice none 0 0, .int .i64 11]) ∧ w = w' := by
  go_enter Try.func80, Try.ntmps80
  go_wp2
  go_ret2
  exact ⟨rfl, rfl⟩

theorem four_eq {s : Nat} (hs : s < 4294967296) (x0 x1 x2 x3 : UInt8) :
    ((((x0.toNat : Int) == (s : Int) / 16777216) && (((x1.toNat : Int) == (s : Int) / 65536 % 256) && (((x2.toNat : Int) == (s : Int) / 256 % 256) && ((x3.toNat : Int) == (s : Int) % 256)))) = true) ↔ [x0, x1, x2, x3] = sumBytes s := by
  have e0 : ((s / 16777216).toUInt8).toNat = s / 16777216 := byte_toNat (by omega)
  have e1 : ((s / 65536 % 256).toUInt8).toNat = s / 65536 % 256 := byte_toNat (by omega)
  have e2 : ((s / 256 % 256).toUInt8).toNat = s / 256 % 256 := byte_toNat (by omega)
  have e3 : ((s % 256).toUInt8).toNat = s % 256 := byte_toNat (by omega)
  simp only [Bool.and_eq_true, beq_iff_eq]
  constructor
  · rintro ⟨h0, h1, h2, h3⟩
    unfold sumBytes
    have g0 : x0 = (s / 16777216).toUInt8 := UInt8.toNat_inj.1 (by omega)
    have g1 : x1 = (s / 65536 % 256).toUInt8 := UInt8.toNat_inj.1 (by omega)
    have g2 : x2 = (s / 256 % 256).toUInt8 := UInt8.toNat_inj.1 (by omega)
    have g3 : x3 = (s % 256).toUInt8 := UInt8.toNat_inj.1 (by omega)
    rw [g0, g1, g2, g3]
  · intro h
    unfold sumBytes at h
    injection h with h0 h
    injection h with h1 h
    injection h with h2 h
    injection h with h3 h
    rw [h0, h1, h2, h3]
    refine ⟨?_, ?_, ?_, ?_⟩ <;> omega

set_option maxRecDepth 100000 in
theorem unseal_long (b o n c : Nat) (l : List UInt8) (x0 x1 x2 x3 : UInt8) (w : World) (hn : n ≤ 35184372088832) (hc : n + 4 ≤ c)
    (h : IsB w (some ⟨b, o, none⟩) n c l) (h0 : w.cell? ⟨b, o + n, none⟩ = some (.int .u8 (x0.toNat : Int))) (h1 : w.cell? ⟨b, o + n + 1, none⟩ = some (.int .u8 (x1.toNat : Int)))
    (h2 : w.cell? ⟨b, o + n + 2, none⟩ = some (.int .u8 (x2.toNat : Int))) (h3 : w.cell? ⟨b, o + n + 3, none⟩ = some (.int .u8 (x3.toNat : Int))) :
    Calls Try.prog 80 #[.slice (some ⟨b, o, none⟩) (n + 4) c] w fun e w' =>
      ([x0, x1, x2, x3] = sumBytes (crc l) → ∃ v, e = .returned (.tuple #[v, .int .i64 0]) ∧ Own w' w.heap.size 5 v l) ∧
      ([x0, x1, x2, x3] ≠ sumBytes (crc l) → e = .returned (.tuple #[.slice none 0 0, .int .i64 12])) ∧ Below w.heap.size w w' := by
  have hsub : ((n + 4 : Nat) : Int) - 4 = (n : Int) := by omega
  have hsub' : (n : Int) + 4 - 4 = (n : Int) := by omega
  have hb0 : (0 : Int) ≤ (n : Int) := by omega
  have hb1 : (n : Int) ≤ (c : Int) := by omega
  have hb2 : (n : Int) ≤ (n : Int) + 4 := by omega
  have hne : (c = n) = False := by simp; omega
  go_enter Try.func80, Try.ntmps80
  go_wp2_with fail
  go_quiet (fail)
  go_wp2_with fail
  have hB : Below w.heap.size w (w.drewN nq) := ⟨rfl, rfl, rfl, Nat.le_refl _, fun _ _ => rfl⟩
  replace h := h.below hB
  have hS : (w.drewN nq).drew.cell? ⟨b, o + n, none⟩ = some (.int .u8 (x0.toNat : Int)) ∧ (w.drewN nq).drew.cell? ⟨b, o + n + 1, none⟩ = some (.int .u8 (x1.toNat : Int)) ∧ (w.drewN nq).drew.cell? ⟨b, o + n + 2, none⟩ = some (.int .u8 (x2.toNat : Int)) ∧ (w.drewN nq).drew.cell? ⟨b, o + n + 3, none⟩ = some (.int .u8 (x3.toNat : Int)) := ⟨h0, h1, h2, h3⟩
  clear h0 h1 h2 h3
  generalize w.drewN nq = w1 at hB h hS ⊢
  refine wp_region_held_drew (S := fun w' => w'.cell? ⟨b, o + n, none⟩ = some (.int .u8 (x0.toNat : Int)) ∧ w'.cell? ⟨b, o + n + 1, none⟩ = some (.int .u8 (x1.toNat : Int)) ∧ w'.cell? ⟨b, o + n + 2, none⟩ = some (.int .u8 (x2.toNat : Int)) ∧ w'.cell? ⟨b, o + n + 3, none⟩ = some (.int .u8 (x3.toNat : Int))) (by kernel_rfl) hS (fun hHeld => ?_)
  refine wpAnyH_take (i := 0) (v := ?_) rfl (by kernel_rfl) (by kernel_rfl) (by kernel_rfl) (fun _ _ _ h => h) (Or.inl ⟨by rfl, ?_⟩) hHeld ?_
  rotate_left
  · (intro w hSw; (try dsimp only at hSw); go_simp <;> rfl)
  simp only [Act.put, List.getElem_toArray, List.getElem_cons_zero, List.getElem_cons_succ, List.setIfInBounds_toArray, List.set_cons_zero, List.set_cons_succ]
  refine wpAnyH_take (i := 3) (v := ?_) rfl (by kernel_rfl) (by kernel_rfl) (by kernel_rfl) (fun _ _ _ h => h) (Or.inl ⟨by rfl, ?_⟩) hHeld ?_
  rotate_left
  · (intro w hSw; (try dsimp only at hSw); go_simp <;> rfl)
  simp only [Act.put, List.getElem_toArray, List.getElem_cons_zero, List.getElem_cons_succ, List.setIfInBounds_toArray, List.set_cons_zero, List.set_cons_succ]
  refine wpAnyH_take (i := 1) (v := ?_) rfl (by kernel_rfl) (by kernel_rfl) (by kernel_rfl) (fun _ _ _ h => h) (Or.inl ⟨by rfl, ?_⟩) hHeld ?_
  rotate_left
  · (intro w hSw; (try dsimp only at hSw); go_simp <;> rfl)
  simp only [Act.put, List.getElem_toArray, List.getElem_cons_zero, List.getElem_cons_succ, List.setIfInBounds_toArray, List.set_cons_zero, List.set_cons_succ]
  refine wpAnyH_take (i := 2) (v := ?_) rfl (by kernel_rfl) (by kernel_rfl) (by kernel_rfl) (fun _ _ _ h => h) (Or.inl ⟨by rfl, ?_⟩) hHeld ?_
  rotate_left
  · (intro w hSw; (try dsimp only at hSw); go_simp <;> rfl)
  simp only [Act.put, List.getElem_toArray, List.getElem_cons_zero, List.getElem_cons_succ, List.setIfInBounds_toArray, List.set_cons_zero, List.set_cons_succ]
  refine wpAnyH_ready (rs := [4]) (by kernel_rfl) (by simp) ?_
  refine AllReadyH.cons rfl (fun K hK => ?_) AllReadyH.nil
  go_simp
  refine (crc_any _ n c l _ h.drew (by omega)).mono ?_
  rintro e w2 ⟨rfl, hb2⟩
  dsimp only
  refine hK.out _ _ ⟨cell_below hb2 _ _ hS.1, cell_below hb2 _ _ hS.2.1, cell_below hb2 _ _ hS.2.2.1, cell_below hb2 _ _ hS.2.2.2⟩ (fun hHeld => ?_)
  clear hK K hS
  replace h := h.drew.below hb2
  replace hB := bstep0 hB ((Below.refl _ w1).drew.trans hb2)
  clear hb2
  have hs := crc_lt l
  generalize hse : crc l = sc at hs ⊢
  have HS := Lib.hid hse
  clear hse
  try simp only [Act.put, List.getElem_toArray, List.getElem_cons_zero, List.getElem_cons_succ, List.setIfInBounds_toArray, List.set_cons_zero, List.set_cons_succ]
  refine wpAnyH_ready (rs := [5]) (by kernel_rfl) (by simp) ?_
  refine AllReadyH.cons rfl (fun K hK => ?_) AllReadyH.nil
  go_simp
  refine (laidOut_any sc _ hs).mono ?_
  rintro e w3 ⟨rfl, hb3⟩
  dsimp only
  refine hK.out _ _ ⟨cell_below hb3 _ _ hHeld.1, cell_below hb3 _ _ hHeld.2.1, cell_below hb3 _ _ hHeld.2.2.1, cell_below hb3 _ _ hHeld.2.2.2⟩ (fun hHeld => ?_)
  clear hK K
  replace h := h.below hb3
  replace hB := bstep0 hB hb3
  clear hb3
  try simp only [Act.put, List.getElem_toArray, List.getElem_cons_zero, List.getElem_cons_succ, List.setIfInBounds_toArray, List.set_cons_zero, List.set_cons_succ]
  obtain ⟨r, hr, he4⟩ : ∃ r : Bool, (r = true ↔ [x0, x1, x2, x3] = sumBytes sc) ∧ ∀ W : World, (Op.equalIn 10000 140 (.agg #[.int .u8 (x0.toNat : Int), .int .u8 (x1.toNat : Int), .int .u8 (x2.toNat : Int), .int .u8 (x3.toNat : Int)])
      (.agg #[.int .u8 ((sc : Int) / 16777216), .int .u8 ((sc : Int) / 65536 % 256), .int .u8 ((sc : Int) / 256 % 256), .int .u8 ((sc : Int) % 256)])).run Try.prog W = .ok r W :=
    ⟨_, four_eq hs x0 x1 x2 x3, fun W => run_eq4 W _ _ _ _ _ _ _ _⟩
  have HR := Lib.hid hr
  clear hr
  refine wpAnyH_take (i := 6) (v := ?_) rfl (by kernel_rfl) (by kernel_rfl) (by kernel_rfl) (fun _ _ _ h => h) (Or.inl ⟨by rfl, ?_⟩) hHeld ?_
  rotate_left
  · (intro w hSw; (try dsimp only at hSw); go_simp <;> rfl)
  simp only [Act.put, List.getElem_toArray, List.getElem_cons_zero, List.getElem_cons_succ, List.setIfInBounds_toArray, List.set_cons_zero, List.set_cons_succ]
  refine wpAnyH_done (by kernel_rfl) ?_ _
  clear hHeld he4 hsub hsub' hb0 hb1 hb2 hne
  cases r with
  | false =>
    go_wp2_with fail
    have hne : [x0, x1, x2, x3] ≠ sumBytes sc := fun e => by have := HR.out.2 e; cases this
    refine bodyPost_ret (v := .tuple #[.slice none 0 0, .int .i64 12]) (by simp [results, Try.results80, go_sem]) rfl ?_
    rw [HS.out]
    exact ⟨fun e => absurd e hne, fun _ => rfl, hB⟩
  | true =>
    obtain ⟨i0, hi, hz0, hz1, hz2⟩ := info_parts infoByte
    have hz := hB.size
    go_wp2_with (at_builtin; refine wpList_putAny _ rfl _ _ 26 rfl 5 i0 Try.underlying26 hi hz0 hz1 hz2 w.heap.size _ [] rfl (Own.nil _ _ _) (some ⟨b, o, none⟩) n c l rfl h (by simp; omega) hz ?_; rintro v4 w4 ho4 hb4; rw [List.nil_append] at ho4)
    refine bodyPost_ret (v := .tuple #[v4, .int .i64 0]) (by simp [results, Try.results80, go_sem]) rfl ?_
    rw [HS.out]
    exact ⟨fun _ => ⟨v4, rfl, ho4⟩, fun e => absurd (HR.out.1 (by first | rfl | trivial)) e, hB.trans hb4⟩

/-- bytes with their sum behind them -/
def sealed (l : List UInt8) : List UInt8 := l ++ sumBytes (crc l)
theorem sumBytes_length (s : Nat) : (sumBytes s).length = 4 := rfl
theorem sealed_inj {l m : List UInt8} (h : sealed l = sealed m) : l = m := by
  unfold sealed at h
  have hl := congrArg List.length h
  rw [List.length_append, List.length_append, sumBytes_length, sumBytes_length] at hl
  exact (List.append_inj h (by omega)).1
/-- what Unseal answers -/
def Opened (l : List UInt8) (base : Nat) (e : Ending) (w' : World) : Prop :=
  (∃ body v, l = sealed body ∧ e = .returned (.tuple #[v, .int .i64 0]) ∧ Own w' base 5 v body) ∨
  ((∀ body, l ≠ sealed body) ∧ e = .returned (.tuple #[.slice none 0 0, .int .i64 (if l.length < 4 then 11 else 12)]))
theorem unseal_any (A : Option Addr) (n c : Nat) (l : List UInt8) (w : World) (h : IsB w A n c l) (hn : n ≤ 35184372088832) :
    Calls Try.prog 80 #[.slice A n c] w fun e w' => Opened l w.heap.size e w' ∧ Below w.heap.size w w' := by
  by_cases h4 : n < 4
  · refine (unseal_short A n c w h4).mono ?_
    rintro e w' ⟨rfl, rfl⟩
    refine ⟨.inr ⟨fun body hb => ?_, by rw [if_pos (by rw [h.len]; exact h4)]⟩, Below.refl _ _⟩
    have := congrArg List.length hb
    unfold sealed at this
    rw [List.length_append, sumBytes_length, h.len] at this
    omega
  · obtain ⟨hl, hc, hnone, hsrc⟩ := h
    obtain ⟨k, rfl⟩ : ∃ k, n = k + 4 := ⟨n - 4, by omega⟩
    obtain ⟨b, o, rfl, hcell⟩ : ∃ b o, A = some ⟨b, o, none⟩ ∧ ∀ j u, l[j]? = some u → w.cell? ⟨b, o + j, none⟩ = some (.int .u8 (u.toNat : Int)) := by
      rcases hsrc with rfl | ⟨b, o, hA, hc⟩
      · simp at hl
      · exact ⟨b, o, hA, hc⟩
    obtain ⟨body, x0, x1, x2, x3, rfl, hbl⟩ : ∃ body x0 x1 x2 x3, l = body ++ [x0, x1, x2, x3] ∧ body.length = k := by
      have hd : (l.drop k).length = 4 := by rw [List.length_drop]; omega
      match hq : l.drop k, hd with
      | [x0, x1, x2, x3], _ => exact ⟨l.take k, x0, x1, x2, x3, by rw [← hq, List.take_append_drop], by rw [List.length_take]; omega⟩
    have hb : IsB w (some ⟨b, o, none⟩) k c body := ⟨hbl, by omega, (fun e => by cases e), .inr ⟨b, o, rfl, fun j u hj => hcell j u (by rw [List.getElem?_append_left (by have := (List.getElem?_eq_some_iff.1 hj).1; omega)]; exact hj)⟩⟩
    have at_ : ∀ j u, [x0, x1, x2, x3][j]? = some u → w.cell? ⟨b, o + k + j, none⟩ = some (.int .u8 (u.toNat : Int)) := fun j u hj => by
      rw [Nat.add_assoc]
      exact hcell (k + j) u (by rw [List.getElem?_append_right (by omega), hbl, Nat.add_sub_cancel_left]; exact hj)
    refine (unseal_long b o k c body x0 x1 x2 x3 w (by omega) hc hb (at_ 0 x0 rfl) (at_ 1 x1 rfl) (at_ 2 x2 rfl) (at_ 3 x3 rfl)).mono ?_
    rintro e w' ⟨h1, h2, hB⟩
    refine ⟨?_, hB⟩
    by_cases hs : [x0, x1, x2, x3] = sumBytes (crc body)
    · obtain ⟨v, he, ho⟩ := h1 hs
      exact .inl ⟨body, v, by unfold sealed; rw [hs], he, ho⟩
    · refine .inr ⟨fun body' hb' => ?_, by rw [h2 hs, if_neg (by rw [List.length_append]; simp)]⟩
      unfold sealed at hb'
      have hlen := congrArg List.length hb'
      rw [List.length_append, List.length_append, sumBytes_length] at hlen
      have hh := List.append_inj hb' (by simpa using hlen)
      exact hs (by rw [hh.1]; exact hh.2)
end Go.Proofs.Ytiockkphciadeaa
