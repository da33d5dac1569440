/-
  Uint: out, and behind it the number laid out, in memory of the call's own.
-/
import Derived.Test.YtiockkphciadeaaLeaf
import Derived.Test.YtiockkphciadeaaMem
namespace Go.Proofs.Ytiockkphciadeaa
open Go.RowKit
open Go.Lib (byteCells byteCells_length byteCells_append uvarint uvarint_small uvarint_big)

theorem infoByte : (Try.prog.info? 5).map (fun i => (i.zero, i.size, i.bytes)) = some (some (.int .u8 0), 1, 1) := by kernel_rfl

theorem low_small (m : Nat) (h : m < 128) : IntKind.u8.wrap (m : Int) = (m : Int) := by
  rw [IntKind.wrap_u8']; omega

theorem byteVal (m : Nat) : (((m % 128 + 128).toUInt8).toNat : Int) = (m : Int) % 128 + 128 := by
  have : ((m % 128 + 128).toUInt8).toNat = m % 128 + 128 := by simp [Nat.toUInt8, UInt8.toNat_ofNat']; omega
  omega
theorem byteLow (m : Nat) (h : m < 128) : ((m.toUInt8).toNat : Int) = (m : Int) := by
  have : (m.toUInt8).toNat = m := by simp [Nat.toUInt8, UInt8.toNat_ofNat']; omega
  omega
theorem byteVal' (m : Nat) : (((m % 128 + 128).toUInt8).toNat : Int) = bits .or .u8 ((m : Int) % 256) 128 := by
  rw [byteVal, Lib.u8_or128_any _ (by omega) (by omega)]
  omega
/-- the byte that was just laid in a block of its own -/
theorem new_byte {u : UInt8} {q : Int} (w : World) (t : TypeId) (h : (u.toNat : Int) = q) :
    ∀ j u', [u][j]? = some u' → (w.alloc (.cells #[.int .u8 q] t)).cell? ((⟨w.heap.size, 0, none⟩ : Addr).add j) = some (.int .u8 (u'.toNat : Int)) := by
  intro j u' hj
  match j, hj with
  | 0, hj => simp at hj; subst hj; simp [Addr.add, h]
theorem uint_step {l l' : List UInt8} {x m : Nat} (h : l ++ uvarint x = l' ++ uvarint m) (hm : 128 ≤ m) : l ++ uvarint x = (l' ++ [(m % 128 + 128).toUInt8]) ++ uvarint (m / 128) := by
  rw [h, uvarint_big hm, List.append_assoc]
  rfl
theorem uint_room {l l' : List UInt8} {n m x : Nat} (hl : l.length = n) (hx : x < 18446744073709551616) (hn : n ≤ 35184372088832) (h : l ++ uvarint x = l' ++ uvarint m) : l'.length + 1 ≤ 35184372088832 + 10 := by
  have e := congrArg List.length h
  rw [List.length_append, List.length_append] at e
  have h1 := Lib.uvarint_length64 hx
  have h2 := Lib.uvarint_pos m
  omega

set_option maxRecDepth 100000 in
set_option maxHeartbeats 400000 in
theorem uint_any (A : Option Addr) (n c x : Nat) (l : List UInt8) (w : World) (h : IsB w A n c l) (hn : n ≤ 35184372088832) (hx : x < 18446744073709551616) :
    Calls Try.prog 78 #[.slice A n c, .int .u64 (x : Int)] w fun e w' =>
      ∃ v, e = .returned v ∧ Own w' w.heap.size 5 v (l ++ uvarint x) ∧ Below w.heap.size w w' := by
  obtain ⟨i0, hi, hz0, hz1, hz2⟩ := info_parts infoByte
  obtain ⟨hl, hcap, hnone, hsrc⟩ := h
  have H0 : Full w w.heap.size 5 (.slice A n n) l := by subst hl; exact .inr ⟨A, rfl, fun e => List.eq_nil_of_length_eq_zero (by have := hnone e; omega), hsrc⟩
  clear hsrc hnone
  go_enter Try.func78, Try.ntmps78
  go_wp2_with (go_at_call 71; refine (clip_any _ _ _ _ hcap).mono ?_; rintro e w' ⟨rfl, rfl⟩)
  go_loopw [0, 1] (fun o i wr => ∃ (m : Nat) (l' : List UInt8), i = .int .u64 (m : Int) ∧ m < 18446744073709551616 ∧ Hid (l ++ uvarint x = l' ++ uvarint m) ∧ Full wr w.heap.size 5 o l' ∧ Below w.heap.size w wr)
    (fun _ i _ => (intOf i).toNat)
  case atStart => exact ⟨x, l, rfl, hx, rfl, H0, Below.refl _ _⟩
  case round =>
    obtain ⟨m, l', rfl, hm, hL, hF, hB⟩ := hrel
    have hlen : l'.length + 1 ≤ 35184372088832 + 10 := uint_room hl hx hn hL.out
    clear H0 hl hx hcap hn
    have hB1 := hB.size
    by_cases hge : 128 ≤ m
    · obtain ⟨q, hq⟩ : ∃ q : UInt8, Hid (q = (m % 128 + 128).toUInt8) := ⟨_, rfl⟩
      go_wp2_with (at_builtin; refine wpList_put _ rfl _ _ 26 rfl 5 i0 Try.underlying26 hi hz0 hz1 hz2 w.heap.size _ l' rfl (hF.below ((Below.refl _ _).alloc (Nat.le_refl _) _)) _ 1 1 [q] rfl rfl (by decide) ?c1 ?c2 ?c3 ?_)
      case c1 => exact new_byte _ _ (by rw [hq.out]; exact byteVal' m)
      case c2 => omega
      case c3 => simp; omega
      intro v' w' hown hb
      go_wp2
      go_roundw
      case rel => exact ⟨m / 128, l' ++ [q], by go_num, by omega, by rw [hq.out]; exact uint_step hL.out hge, .inl hown, (hB.alloc hB1 _).trans hb⟩
      case measure => simp [intOf]; omega
    · have hlow := low_small m (by omega)
      go_wp2_with (at_builtin; refine wpList_put _ rfl _ _ 26 rfl 5 i0 Try.underlying26 hi hz0 hz1 hz2 w.heap.size _ l' rfl (hF.below ((Below.refl _ _).alloc (Nat.le_refl _) _)) _ 1 1 [m.toUInt8] rfl rfl (by decide) ?c1 ?c2 ?c3 ?_)
      case c1 => exact new_byte _ _ (byteLow m (by omega))
      case c2 => omega
      case c3 => simp; omega
      intro v' w' hown hb
      clear hlow
      go_wp2
      go_ret
      dsimp only [Array.getD]
      rw [← uvarint_small (show m < 128 by omega), ← hL.out] at hown
      exact ⟨_, rfl, hown, (hB.alloc hB1 _).trans hb⟩
end Go.Proofs.Ytiockkphciadeaa
