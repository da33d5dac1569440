/-
  What a slice of bytes that came in holds, as the row's reading gives it.
-/
import Derived.Test.YtiockkphciadeaaAwaken
import Derived.OpenShut
namespace Go.Proofs.Ytiockkphciadeaa
open Go.RowKit

theorem wf_u8 {n : Int} (h : (Lit.int .u8 n).wf = true) : 0 ≤ n ∧ n < 256 := by
  have : 0 ≤ n ∧ n ≤ 255 := by simpa [Lit.wf, IntKind.min, IntKind.max, IntKind.signed, IntKind.bits] using h
  omega
theorem wf_u64 {n : Int} (h : (Lit.int .u64 n).wf = true) : 0 ≤ n ∧ n < 18446744073709551616 := by
  have : 0 ≤ n ∧ n ≤ 18446744073709551615 := by simpa [Lit.wf, IntKind.min, IntKind.max, IntKind.signed, IntKind.bits] using h
  omega
theorem wf_i64 {n : Int} (h : (Lit.int .i64 n).wf = true) : -9223372036854775808 ≤ n ∧ n ≤ 9223372036854775807 := by
  simpa [Lit.wf, IntKind.min, IntKind.max, IntKind.signed, IntKind.bits] using h

theorem isB_of_row {w : World} {x : Addr} {len cap : Nat} {zs : List Int} (hl : len ≤ cap) (hz : zs.length = cap)
    (hcell : ∀ i, i < zs.length → w.cell? (x.add i) = some (.int .u8 (zs.getD i 0))) (hwz : ∀ n ∈ zs, (Lit.int .u8 n).wf = true) :
    ∃ l, IsB w (some x) len cap l := by
  refine ⟨(zs.take len).map fun z => z.toNat.toUInt8, ?_, hl, (fun h => by cases h), ?_⟩
  · rw [List.length_map, List.length_take]; omega
  · rcases Nat.eq_zero_or_pos len with h0 | h0
    · subst h0; exact .inl (by simp)
    · obtain ⟨b, o, spot⟩ := x
      have hc := hcell 0 (by omega)
      have hspot : spot = none := by simpa [Addr.add] using World.cell?_spot hc
      subst hspot
      refine .inr ⟨b, o, rfl, fun j u hj => ?_⟩
      have hjl : j < ((zs.take len).map fun z => z.toNat.toUInt8).length := (List.getElem?_eq_some_iff.1 hj).1
      rw [List.length_map, List.length_take] at hjl
      have hjz : j < zs.length := by omega
      rw [List.getElem?_map, List.getElem?_take_of_lt (by omega), List.getElem?_eq_getElem hjz] at hj
      obtain rfl := Option.some.inj hj
      have hw := wf_u8 (hwz _ (List.getElem_mem hjz))
      have hc' := hcell j hjz
      rw [Addr.add_lit, List.getD_eq_getElem?_getD, List.getElem?_eq_getElem hjz] at hc'
      rw [hc', byte_toNat (by omega)]
      simp only [Option.getD_some]
      rw [Int.toNat_of_nonneg hw.1]
end Go.Proofs.Ytiockkphciadeaa
