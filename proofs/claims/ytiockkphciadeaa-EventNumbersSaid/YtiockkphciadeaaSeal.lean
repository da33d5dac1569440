/-
  Seal, Unseal, Blob, GetBlob.
-/
import Derived.Test.YtiockkphciadeaaCrc
import Derived.Test.YtiockkphciadeaaGet
import Derived.Deep.RegionLaw
namespace Go.Proofs.Ytiockkphciadeaa
open Go.RowKit
open Go.Lib (byteCells byteCells_length byteCells_append uvarint)

/-- the four bytes of a sum -/
def sumBytes (s : Nat) : List UInt8 := [(s / 16777216).toUInt8, (s / 65536 % 256).toUInt8, (s / 256 % 256).toUInt8, (s % 256).toUInt8]
theorem IsB.full {w : World} {A : Option Addr} {n c : Nat} {l : List UInt8} {base : Nat} {e : TypeId} (h : IsB w A n c l) : Full w base e (.slice A n n) l := by
  obtain ⟨rfl, hc, hA, hs⟩ := h
  exact .inr ⟨A, rfl, fun e => List.eq_nil_of_length_eq_zero (by have := hA e; omega), hs⟩
theorem Full.drew {w : World} {base : Nat} {e : TypeId} {v : Value} {l : List UInt8} (h : Full w base e v l) : Full w.drew base e v l := h
theorem new_four (w : World) (t : TypeId) {s : Nat} (hs : s < 4294967296) : ∀ j u, (sumBytes s)[j]? = some u →
    (w.alloc (.cells #[.int .u8 ((s : Int) / 16777216), .int .u8 ((s : Int) / 65536 % 256), .int .u8 ((s : Int) / 256 % 256), .int .u8 ((s : Int) % 256)] t)).cell? ((⟨w.heap.size, 0, none⟩ : Addr).add j) = some (.int .u8 (u.toNat : Int)) := by
  intro j u hj
  have hr := Row.new w t #[.int .u8 ((s : Int) / 16777216), .int .u8 ((s : Int) / 65536 % 256), .int .u8 ((s : Int) / 256 % 256), .int .u8 ((s : Int) % 256)]
  rw [Addr.add_lit, hr.cell]
  have e0 : ((s / 16777216).toUInt8).toNat = s / 16777216 := byte_toNat (by omega)
  have e1 : ((s / 65536 % 256).toUInt8).toNat = s / 65536 % 256 := byte_toNat (by omega)
  have e2 : ((s / 256 % 256).toUInt8).toNat = s / 256 % 256 := byte_toNat (by omega)
  have e3 : ((s % 256).toUInt8).toNat = s % 256 := byte_toNat (by omega)
  match j, hj with
  | 0, hj => obtain rfl := Option.some.inj hj; rw [e0]; rfl
  | 1, hj => obtain rfl := Option.some.inj hj; rw [e1]; rfl
  | 2, hj => obtain rfl := Option.some.inj hj; rw [e2]; rfl
  | 3, hj => obtain rfl := Option.some.inj hj; rw [e3]; rfl

set_option maxRecDepth 100000 in
theorem seal_any (A : Option Addr) (n c : Nat) (l : List UInt8) (w : World) (h : IsB w A n c l) (hn : n ≤ 35184372088832) :
    Calls Try.prog 46 #[.slice A n c] w fun e w' => ∃ v, e = .returned v ∧ Own w' w.heap.size 5 v (l ++ sumBytes (crc l)) ∧ Below w.heap.size w w' := by
  go_enter Try.func46, Try.ntmps46
  go_wp2_with fail
  refine (crc_any A n c l w h hn).mono ?_
  rintro e w1 ⟨rfl, hb1⟩
  have hs := crc_lt l
  generalize hse : crc l = s at hs ⊢
  have HS := Lib.hid hse
  clear hse
  go_wp2_with fail
  refine (laidOut_any s _ hs).mono ?_
  rintro e w2 ⟨rfl, hb2⟩
  go_wp2_with fail
  have h2 := (h.below hb1).below hb2
  have hB : Below w.heap.size w w2 := hb1.trans (hb2.mono hb1.size)
  have h3 := (h2.alloc (.cells #[.int .u8 ((s : Int) / 16777216), .int .u8 ((s : Int) / 65536 % 256), .int .u8 ((s : Int) / 256 % 256), .int .u8 ((s : Int) % 256)] 140)).full (base := w.heap.size) (e := 5)
  have hN := new_four w2 140 hs
  have hB3 := hB.alloc hB.size (.cells #[.int .u8 ((s : Int) / 16777216), .int .u8 ((s : Int) / 65536 % 256), .int .u8 ((s : Int) / 256 % 256), .int .u8 ((s : Int) % 256)] 140)
  have hz := hB.size
  have hcap := h.cap
  have hl := h.len
  obtain ⟨i0, hi, hz0, hz1, hz2⟩ := info_parts infoByte
  have HB := Lib.hid hB3
  have HN := Lib.hid hN
  clear h h2 hb1 hb2 hB hB3 hN
  go_region_law (first
    | (refine step_run (by simp [Region.wanted]) _ _ 26 rfl (R := fun v' w' => Own w' w.heap.size 5 v' (l ++ sumBytes s) ∧ Below w.heap.size _ w') (run_put _ 26 _ 5 i0 Try.underlying26 hi hz0 hz1 hz2 w.heap.size _ l h3.drew _ 4 4 (sumBytes s) rfl (by decide) HN.out (by omega) (by simp; omega)) ?_; rintro v' w' ⟨ho, hb⟩)
    | (go_simp; go_at_call 71; refine (clip_any A n c _ hcap).mono ?_; rintro e w' ⟨rfl, rfl⟩))
  go_wp2
  go_ret
  exact ⟨v', rfl, by rw [HS.out]; exact ho, HB.out.drew.trans hb⟩

/- ## Blob -/
end Go.Proofs.Ytiockkphciadeaa
