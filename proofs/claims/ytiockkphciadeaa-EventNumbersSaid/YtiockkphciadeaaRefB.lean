/-
  The definition's numbers: Varint, weighs.
-/
import Derived.Test.YtiockkphciadeaaRefA
set_option linter.unusedSimpArgs false
namespace Go.Proofs.Ytiockkphciadeaa
open Go.RowKit
open Go.Lib (byteCells byteCells_length byteCells_append uvarint uvarint_small uvarint_big)
set_option linter.unusedVariables false

theorem own_put {w : World} {base : Nat} {e : TypeId} {g n c : Nat} {l : List UInt8} (h : Own w base e (.slice (some ⟨g, 0, none⟩) n c) l) (k : Nat) (u : UInt8) (q : Int) (hq : (u.toNat : Int) = q) :
    Own (w.setCell ⟨g, k, none⟩ (.int .u8 q)) base e (.slice (some ⟨g, 0, none⟩) n c) (l.set k u) := by
  subst hq
  unfold Own at h ⊢
  refine ⟨by rw [byteCells_length, List.length_set, Nat.mul_one], ?_⟩
  rcases h.2 with ⟨hn, _⟩ | ⟨g', cap, cur, hv, hbg, hg, hnc, hcm, hcs, htake⟩
  · cases hn
  · simp only [Value.slice.injEq, Option.some.injEq, Addr.mk.injEq, and_true] at hv
    obtain ⟨rfl, rfl, rfl⟩ := hv
    refine .inr ⟨g, c, cur.setIfInBounds k (.int .u8 (u.toNat : Int)), by rw [List.length_set], hbg, ?_, by rw [List.length_set]; exact hnc, hcm, by rw [Array.size_setIfInBounds, hcs], ?_⟩
    · simp [World.setCell, Array.getElem?_modify, hg]
    · rw [List.length_set, Array.toList_setIfInBounds, List.take_set, htake, byteCells, byteCells, List.map_set]
theorem own_one (w : World) (e : TypeId) (u : UInt8) (q : Int) (hq : (u.toNat : Int) = q) : Own (w.alloc (.cells #[.int .u8 q] e)) w.heap.size e (.slice (some ⟨w.heap.size, 0, none⟩) 1 1) [u] := by
  subst hq
  exact ⟨rfl, .inr ⟨w.heap.size, 1, _, rfl, Nat.le_refl _, heap_alloc_new _ _, Nat.le_refl _, by decide, rfl, rfl⟩⟩
theorem own_form {w : World} {base : Nat} {e : TypeId} {v : Value} {l : List UInt8} {n : Nat} (h : Own w base e v l) (hn : l.length = n) (hl : 0 < n) :
    ∃ g c, v = .slice (some ⟨g, 0, none⟩) n c ∧ base ≤ g ∧ g < w.heap.size ∧ Mine w g e c l ∧ Own w base e (.slice (some ⟨g, 0, none⟩) n c) l := by
  obtain ⟨g, c, rfl, hb, hg, hM⟩ := own_mine_at h hn hl
  exact ⟨g, c, rfl, hb, hg, hM, h⟩
theorem byte128 (m : Nat) : ((m % 128).toUInt8).toNat = m % 128 := byte_toNat (by omega)
theorem byte_low (m : Nat) : (((m % 128).toUInt8).toNat : Int) = IntKind.u8.wrap ((m : Int) % 128) := by
  rw [byte128, IntKind.wrap_u8']; omega
theorem byte_high (m : Nat) : (((m % 128 + 128).toUInt8).toNat : Int) = IntKind.u8.wrap ((((m % 128).toUInt8).toNat : Int) + 128) := by
  rw [byte128, IntKind.wrap_u8', byteVal]; omega

theorem new_byte' {u : UInt8} {q : Int} (w : World) (s : Nat) (hs : w.heap.size = s) (t : TypeId) (h : (u.toNat : Int) = q) :
    ∀ j u', [u][j]? = some u' → (w.alloc (.cells #[.int .u8 q] t)).cell? ((⟨s, 0, none⟩ : Addr).add j) = some (.int .u8 (u'.toNat : Int)) := by
  subst hs
  exact new_byte w t h
theorem size_setCell (w : World) (p : Addr) (v : Value) : (w.setCell p v).heap.size = w.heap.size := by simp [World.setCell]
theorem varint_step {pre : List UInt8} {x m k : Nat} {q : UInt8} (h : uvarint x = pre ++ uvarint m) (hm : 128 ≤ m) (hk : pre.length = k) :
    uvarint x = (pre ++ [(m % 128 + 128).toUInt8]) ++ uvarint (m / 128) ∧ (pre ++ [q]).set k ((m % 128 + 128).toUInt8) = pre ++ [(m % 128 + 128).toUInt8] := by
  refine ⟨by rw [h, uvarint_big hm, List.append_assoc]; rfl, ?_⟩
  subst hk
  simp

set_option maxRecDepth 100000 in
set_option maxHeartbeats 400000 in
theorem varint_any (x : Nat) (w : World) (hx : x < 18446744073709551616) :
    Calls Try.prog 82 #[.int .u64 (x : Int)] w fun e w' =>
      ∃ A m c, e = .returned (.slice A m c) ∧ IsB w' A m c (uvarint x) ∧ Below w.heap.size w w' := by
  obtain ⟨i0, hi, hz0, hz1, hz2⟩ := info_parts infoByte
  go_enter Try.func82, Try.ntmps82
  go_wp2_with fail
  go_loopw [3, 4] (fun o r wr => ∃ (m : Nat) (pre : List UInt8), r = .int .u64 ((m : Int) / 128) ∧ m < 18446744073709551616 ∧ Hid (uvarint x = pre ++ uvarint m) ∧ Own wr w.heap.size 5 o (pre ++ [(m % 128).toUInt8]) ∧ Below w.heap.size w wr)
    (fun _ r _ => (intOf r).toNat)
  case atStart => exact ⟨x, [], rfl, hx, rfl, own_one w 5 _ _ (by rw [byte128]; omega), (Below.refl _ _).alloc (Nat.le_refl _) _⟩
  case round =>
    obtain ⟨m, pre, rfl, hm, hL, hF, hB⟩ := hrel
    have hlen : pre.length + 1 ≤ 10 := by
      have e := congrArg List.length hL.out
      rw [List.length_append] at e
      have h1 := Lib.uvarint_length64 hx
      have h2 := Lib.uvarint_pos m
      omega
    obtain ⟨k, hk⟩ : ∃ k, pre.length = k := ⟨_, rfl⟩
    have HK := Lib.hid hk
    have hlk : (pre ++ [(m % 128).toUInt8]).length = k + 1 := by rw [List.length_append, hk]; rfl
    obtain ⟨g, c, rfl, hbg, hgs, hM, hO⟩ := own_form hF hlk (by omega)
    rw [hk] at hlen
    have HLK := Lib.hid hlk
    have hqk : (pre ++ [(m % 128).toUInt8])[k]? = some ((m % 128).toUInt8) := by rw [← hk]; simp
    have hB1 := hB.size
    by_cases hge : 128 ≤ m
    · have f1 := hM.cell hqk
      have f2 := hM.free k
      clear hqk hlk hk hF
      obtain ⟨q, hq⟩ : ∃ q : UInt8, q = (m % 128).toUInt8 := ⟨_, rfl⟩
      have HQ := Lib.hid hq
      rw [← hq] at f1 hO hM
      clear hq
      have hq2 : (((m % 128 + 128).toUInt8).toNat : Int) = ((q.toNat : Int) + 128) % 256 := by rw [HQ.out, byte128, byteVal]; omega
      have hq3 : (((m / 128 % 128).toUInt8).toNat : Int) = (m : Int) / 128 % 128 := by rw [byte128]; omega
      have hO2 := own_put hO k _ _ hq2
      have hB2 := hB.setCell (p := ⟨g, k, none⟩) hbg (.int .u8 (((q.toNat : Int) + 128) % 256))
      have HS := Lib.hid (varint_step (q := q) hL.out hge HK.out)
      rw [HS.out.2] at hO2
      obtain ⟨q2, hd2⟩ : ∃ u : UInt8, u = (m % 128 + 128).toUInt8 := ⟨_, rfl⟩
      obtain ⟨q3, hd3⟩ : ∃ u : UInt8, u = (m / 128 % 128).toUInt8 := ⟨_, rfl⟩
      rw [← hd2] at hO2 hq2 HS
      rw [← hd3] at hq3
      have HD3 := Lib.hid hd3
      have HQ2 := Lib.hid hq2
      have HQ3 := Lib.hid hq3
      clear hq2 hq3 hO hM hd2 hd3
      obtain ⟨N, hN⟩ : ∃ N, N = pre ++ [q2] := ⟨_, rfl⟩
      have hNl : N.length = k + 1 := by rw [hN, List.length_append, HK.out]; rfl
      rw [← hN] at hO2 HS
      have HN := Lib.hid hN
      clear hN
      go_wp2_with (at_builtin; refine wpList_put _ rfl _ _ 26 rfl 5 i0 Try.underlying26 hi hz0 hz1 hz2 w.heap.size _ N rfl (.inl (hO2.below ((Below.refl _ _).alloc (Nat.le_refl _) _))) _ 1 1 [q3] rfl rfl (by decide) ?c1 ?c2 ?c3 ?_)
      case c1 => exact new_byte' _ _ (size_setCell _ _ _) _ HQ3.out
      case c2 => omega
      case c3 => simp [size_setCell]; omega
      intro v' w' hown hb
      go_wp2
      go_roundw
      case rel => exact ⟨m / 128, N, by simp, by omega, HS.out.1, by rw [← HD3.out]; exact hown, (hB2.alloc (by rw [size_setCell]; exact hB1) _).trans hb⟩
      case measure => simp [intOf]; omega
    · have hlow : pre ++ [(m % 128).toUInt8] = uvarint x := by
        rw [hL.out, uvarint_small (by omega)]
        congr 2
        have : m % 128 = m := Nat.mod_eq_of_lt (by omega)
        rw [this]
      have hI : IsB wr (some ⟨g, 0, none⟩) (k + 1) c (uvarint x) := by rw [← hlow]; exact hM.is_ hlk
      have hz : (m : Int) / 128 = 0 := by omega
      clear hlow hqk hlk hk hF hO hM HLK HK
      go_wp2_with fail
      go_ret
      exact ⟨_, _, _, rfl, hI, hB⟩
end Go.Proofs.Ytiockkphciadeaa
