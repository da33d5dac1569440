/-
  EventNumbers: the fixed examples of the chapter come out as written.
-/
import Derived.Test.YtiockkphciadeaaRefFrame
import Derived.Test.YtiockkphciadeaaEvAwake
import Derived.Test.YtiockkphciadeaaEvMade
set_option linter.unusedVariables false
set_option linter.unusedSimpArgs false
namespace Go.Proofs.Ytiockkphciadeaa
open Go.RowKit
open Go.Lib (byteCells byteCells_length byteCells_append uvarint)

set_option maxRecDepth 100000 in
set_option maxHeartbeats 2000000 in
theorem wrong_is {w : World} {A : Option Addr} {n c : Nat} {l : List UInt8} (h : IsB w A n c l) (hn : n ≤ 1000) (hr : rdFrame (uvarint n ++ sealed l) 0 = ([], 0, 10)) :
    Calls Try.prog 33 #[.slice A n c] w fun e w' => e = .returned (.bool true) ∧ Below w.heap.size w w' := by
  have e1 := nat_u64' n (by omega)
  have hl := h.len
  have HV := Lib.hid (varint_own n w (by omega))
  have HB := Lib.hid h
  have hvl := Lib.uvarint_length64 (x := n) (by omega)
  clear h
  go_enter Try.func33, Try.ntmps33
  go_wp2_with fail
  refine HV.out.mono ?_
  rintro e w2 ⟨v2, rfl, ho2, hb2⟩
  obtain ⟨A2, m2, c2, rfl, hI2⟩ := own_slice ho2
  have HS := Lib.hid (refSeal_any A n c _ w2 (HB.out.below hb2) (by omega))
  have HO2 := Lib.hid ho2
  have HB2 := Lib.hid hb2
  clear ho2 hI2 hb2 HV
  go_wp2_with fail
  refine HS.out.mono ?_
  rintro e w3 ⟨B3, m3, d3, rfl, hI3, hb3⟩
  obtain ⟨i0, j2, j3, j4, j5⟩ := info_parts infoByte
  have hm3 := hI3.len
  have hsl : (sealed l).length = l.length + 4 := by unfold sealed; rw [List.length_append, sumBytes_length]
  obtain ⟨v4, w4, hap, hO4, hb4⟩ := run_putAny (P := Try.prog) w3 26 26 5 i0 Try.underlying26 j2 j3 j4 j5 w.heap.size (.slice A2 m2 c2) _ (HO2.out.below hb3) B3 m3 d3 _ hI3 (by omega) (Nat.le_trans HB2.out.size hb3.size)
  obtain ⟨A4, m4, c4, rfl, hI4⟩ := own_slice hO4
  have hm4 := hI4.len
  rw [List.length_append] at hm4
  have HR := Lib.hid (Read_lit hI4 (by omega) hr)
  have HB4 := Lib.hid (HB2.out.trans ((hb3.mono HB2.out.size).trans hb4))
  clear hI3 hb3 hO4 hb4 hI4 hm3 hsl HS hm4
  go_wp2_with (at_builtin; refine wpList_run _ rfl _ _ 26 rfl (R := fun v' w' => .slice A4 m4 c4 = v' ∧ w4 = w') ⟨_, _, hap, rfl, rfl⟩ ?_; rintro v' w' ⟨rfl, rfl⟩)
  refine HR.out.mono ?_
  rintro e w5 ⟨⟨B5, m5, d5, rfl, hO5, hm5⟩, hb5⟩
  obtain rfl : m5 = 0 := hm5
  have HB5 := Lib.hid (HB4.out.trans (hb5.mono HB4.out.size))
  clear hO5 hb5 HR
  go_wp2_with fail
  go_ret
  exact ⟨rfl, HB5.out⟩

def evMost : Ev := ⟨9223372036854775807, 255, -9223372036854775808, 9223372036854775807, -9223372036854775808⟩
def evLeast : Ev := ⟨-9223372036854775808, 0, 9223372036854775807, -9223372036854775808, 9223372036854775807⟩
theorem evMost_ok : evMost.ok := by constructor <;> (try unfold In64) <;> decide
theorem evLeast_ok : evLeast.ok := by constructor <;> (try unfold In64) <;> decide
theorem getEv_put (p e : Ev) (he : e.ok) : getEv p ([] ++ encEv p e) 0 = (e, (encEv p e).length, 0) := by
  have h := getEv_enc (p := p) (l := [] ++ encEv p e) (r := []) (k := 0) he (by rw [List.drop_zero, List.append_nil, List.nil_append])
  rw [h, Nat.zero_add]
theorem zeros_ok (n : Nat) : ∀ x ∈ List.replicate n Ev.zero, x.ok := fun x hx => by rw [(List.mem_replicate.1 hx).2]; exact Ev.zero_ok
theorem gt0 (p : Ev) : getEv p [] 0 = (Ev.zero, 0, 11) := by kernel_rfl
theorem gt1 (p : Ev) : getEv p [1, 2] 0 = (Ev.zero, 0, 11) := by kernel_rfl
theorem gt2 (p : Ev) : getEv p [1, 128, 0, 0, 0, 0] 0 = (Ev.zero, 0, 10) := by kernel_rfl
theorem rdn1 : rdFrame [129, 128, 16] 0 = ([], 0, 3) := by kernel_rfl
theorem rdn2 : rdFrame [1, 0, 0, 0, 0, 0] 0 = ([], 0, 12) := by kernel_rfl
theorem rdn3 : rdFrame [] 0 = ([], 0, 11) := by kernel_rfl
theorem rdn4 : rdFrame [128, 0] 0 = ([], 0, 10) := by kernel_rfl
theorem wr0 : rdFrame (uvarint 0 ++ sealed []) 0 = ([], 0, 10) := by rw [Lib.uvarint_small (by decide)]; kernel_rfl
theorem wr1 : rdFrame (uvarint 1 ++ sealed [0]) 0 = ([], 0, 10) := by rw [Lib.uvarint_small (by decide)]; kernel_rfl
theorem wr2 : rdFrame (uvarint 1 ++ sealed [1]) 0 = ([], 0, 10) := by rw [Lib.uvarint_small (by decide)]; kernel_rfl
theorem wr3 : rdFrame (uvarint 5 ++ sealed [1, 0, 0, 0, 0]) 0 = ([], 0, 10) := by rw [Lib.uvarint_small (by decide)]; kernel_rfl
theorem wr4 : rdFrame (uvarint 7 ++ sealed [1, 0, 0, 0, 0, 0, 0]) 0 = ([], 0, 10) := by rw [Lib.uvarint_small (by decide)]; kernel_rfl
theorem wr5 : rdFrame (uvarint 6 ++ sealed [2, 0, 0, 0, 0, 0]) 0 = ([], 0, 10) := by rw [Lib.uvarint_small (by decide)]; kernel_rfl
theorem wr6 : rdFrame (uvarint 2 ++ sealed [129, 32]) 0 = ([], 0, 10) := by rw [Lib.uvarint_small (by decide)]; kernel_rfl
theorem wr7 : rdFrame (uvarint 2 ++ sealed [128, 0]) 0 = ([], 0, 10) := by rw [Lib.uvarint_small (by decide)]; kernel_rfl

/- ## The walk -/
theorem same_yes {w : World} {A : Option Addr} {n c : Nat} {l : List UInt8} {B : Option Addr} {m d : Nat} (h1 : IsB w A n c l) (h2 : IsB w B m d l) :
    Calls Try.prog 27 #[.slice A n c, .slice B m d] w fun e w' => e = .returned (.bool true) ∧ w = w' := by
  have := samebytes_any h1 h2
  rwa [decide_eq_true rfl] at this
theorem pairs_at {w : World} {b : Nat} (h : w.heap[b]? = some (.cells #[.int .i64 9223372036854775807, .int .u8 255, .int .i64 (-9223372036854775808), .int .i64 9223372036854775807, .int .i64 (-9223372036854775808), .int .i64 (-9223372036854775808), .int .u8 0, .int .i64 9223372036854775807, .int .i64 (-9223372036854775808), .int .i64 9223372036854775807, .int .i64 (-9223372036854775808), .int .u8 0, .int .i64 9223372036854775807, .int .i64 (-9223372036854775808), .int .i64 9223372036854775807, .int .i64 9223372036854775807, .int .u8 255, .int .i64 (-9223372036854775808), .int .i64 9223372036854775807, .int .i64 (-9223372036854775808), .int .i64 9223372036854775807, .int .u8 255, .int .i64 (-9223372036854775808), .int .i64 9223372036854775807, .int .i64 (-9223372036854775808), .int .i64 9223372036854775807, .int .u8 255, .int .i64 (-9223372036854775808), .int .i64 9223372036854775807, .int .i64 (-9223372036854775808), .int .i64 0, .int .u8 0, .int .i64 0, .int .i64 0, .int .i64 0, .int .i64 9223372036854775807, .int .u8 255, .int .i64 (-9223372036854775808), .int .i64 9223372036854775807, .int .i64 (-9223372036854775808), .int .i64 (-9223372036854775808), .int .u8 0, .int .i64 9223372036854775807, .int .i64 (-9223372036854775808), .int .i64 9223372036854775807, .int .i64 0, .int .u8 0, .int .i64 0, .int .i64 0, .int .i64 0] 55 (0, 0))) {j : Nat} (hj : j < 5) :
    ∃ p e : Ev, p.ok ∧ e.ok ∧ w.cell? ⟨b, j * 10, none⟩ = some (.int .i64 p.th) ∧ w.cell? ⟨b, j * 10 + 1, none⟩ = some (.int .u8 (p.op : Int)) ∧ w.cell? ⟨b, j * 10 + 2, none⟩ = some (.int .i64 p.obj) ∧ w.cell? ⟨b, j * 10 + 3, none⟩ = some (.int .i64 p.a) ∧ w.cell? ⟨b, j * 10 + 4, none⟩ = some (.int .i64 p.b) ∧ w.cell? ⟨b, j * 10 + 5, none⟩ = some (.int .i64 e.th) ∧ w.cell? ⟨b, j * 10 + 6, none⟩ = some (.int .u8 (e.op : Int)) ∧ w.cell? ⟨b, j * 10 + 7, none⟩ = some (.int .i64 e.obj) ∧ w.cell? ⟨b, j * 10 + 8, none⟩ = some (.int .i64 e.a) ∧ w.cell? ⟨b, j * 10 + 9, none⟩ = some (.int .i64 e.b) := by
  match j, hj with
  | 0, _ => exact ⟨evMost, evLeast, evMost_ok, evLeast_ok, cell_of_row _ _ 0 _ _ _ h, cell_of_row _ _ 1 _ _ _ h, cell_of_row _ _ 2 _ _ _ h, cell_of_row _ _ 3 _ _ _ h, cell_of_row _ _ 4 _ _ _ h, cell_of_row _ _ 5 _ _ _ h, cell_of_row _ _ 6 _ _ _ h, cell_of_row _ _ 7 _ _ _ h, cell_of_row _ _ 8 _ _ _ h, cell_of_row _ _ 9 _ _ _ h⟩
  | 1, _ => exact ⟨evLeast, evMost, evLeast_ok, evMost_ok, cell_of_row _ _ 10 _ _ _ h, cell_of_row _ _ 11 _ _ _ h, cell_of_row _ _ 12 _ _ _ h, cell_of_row _ _ 13 _ _ _ h, cell_of_row _ _ 14 _ _ _ h, cell_of_row _ _ 15 _ _ _ h, cell_of_row _ _ 16 _ _ _ h, cell_of_row _ _ 17 _ _ _ h, cell_of_row _ _ 18 _ _ _ h, cell_of_row _ _ 19 _ _ _ h⟩
  | 2, _ => exact ⟨evMost, evMost, evMost_ok, evMost_ok, cell_of_row _ _ 20 _ _ _ h, cell_of_row _ _ 21 _ _ _ h, cell_of_row _ _ 22 _ _ _ h, cell_of_row _ _ 23 _ _ _ h, cell_of_row _ _ 24 _ _ _ h, cell_of_row _ _ 25 _ _ _ h, cell_of_row _ _ 26 _ _ _ h, cell_of_row _ _ 27 _ _ _ h, cell_of_row _ _ 28 _ _ _ h, cell_of_row _ _ 29 _ _ _ h⟩
  | 3, _ => exact ⟨Ev.zero, evMost, Ev.zero_ok, evMost_ok, cell_of_row _ _ 30 _ _ _ h, cell_of_row _ _ 31 _ _ _ h, cell_of_row _ _ 32 _ _ _ h, cell_of_row _ _ 33 _ _ _ h, cell_of_row _ _ 34 _ _ _ h, cell_of_row _ _ 35 _ _ _ h, cell_of_row _ _ 36 _ _ _ h, cell_of_row _ _ 37 _ _ _ h, cell_of_row _ _ 38 _ _ _ h, cell_of_row _ _ 39 _ _ _ h⟩
  | 4, _ => exact ⟨evLeast, Ev.zero, evLeast_ok, Ev.zero_ok, cell_of_row _ _ 40 _ _ _ h, cell_of_row _ _ 41 _ _ _ h, cell_of_row _ _ 42 _ _ _ h, cell_of_row _ _ 43 _ _ _ h, cell_of_row _ _ 44 _ _ _ h, cell_of_row _ _ 45 _ _ _ h, cell_of_row _ _ 46 _ _ _ h, cell_of_row _ _ 47 _ _ _ h, cell_of_row _ _ 48 _ _ _ h, cell_of_row _ _ 49 _ _ _ h⟩
set_option maxRecDepth 100000 in
set_option maxHeartbeats 4000000 in
theorem evnum_walk (w : World) : Calls Try.prog 5 #[] w fun e w' => e = .returned (.bool true) ∧ Below w.heap.size w w' := by
  go_enter Try.func5, Try.ntmps5
  go_wp2_with fail
  have hz1 : (w.alloc (.cells #[.int .i64 9223372036854775807, .int .u8 255, .int .i64 (-9223372036854775808), .int .i64 9223372036854775807, .int .i64 (-9223372036854775808)] 54)).heap.size = w.heap.size + 1 := Array.size_push _
  have hz2 : ((w.alloc (.cells #[.int .i64 9223372036854775807, .int .u8 255, .int .i64 (-9223372036854775808), .int .i64 9223372036854775807, .int .i64 (-9223372036854775808)] 54)).alloc (.cells #[.int .i64 (-9223372036854775808), .int .u8 0, .int .i64 9223372036854775807, .int .i64 (-9223372036854775808), .int .i64 9223372036854775807] 54)).heap.size = w.heap.size + 2 := by rw [show ((w.alloc (.cells #[.int .i64 9223372036854775807, .int .u8 255, .int .i64 (-9223372036854775808), .int .i64 9223372036854775807, .int .i64 (-9223372036854775808)] 54)).alloc (.cells #[.int .i64 (-9223372036854775808), .int .u8 0, .int .i64 9223372036854775807, .int .i64 (-9223372036854775808), .int .i64 9223372036854775807] 54)).heap.size = (w.alloc (.cells #[.int .i64 9223372036854775807, .int .u8 255, .int .i64 (-9223372036854775808), .int .i64 9223372036854775807, .int .i64 (-9223372036854775808)] 54)).heap.size + 1 from Array.size_push _, hz1]
  have hB3 : Below w.heap.size w (((w.alloc (.cells #[.int .i64 9223372036854775807, .int .u8 255, .int .i64 (-9223372036854775808), .int .i64 9223372036854775807, .int .i64 (-9223372036854775808)] 54)).alloc (.cells #[.int .i64 (-9223372036854775808), .int .u8 0, .int .i64 9223372036854775807, .int .i64 (-9223372036854775808), .int .i64 9223372036854775807] 54)).alloc (.cells #[.int .i64 9223372036854775807, .int .u8 255, .int .i64 (-9223372036854775808), .int .i64 9223372036854775807, .int .i64 (-9223372036854775808), .int .i64 (-9223372036854775808), .int .u8 0, .int .i64 9223372036854775807, .int .i64 (-9223372036854775808), .int .i64 9223372036854775807, .int .i64 (-9223372036854775808), .int .u8 0, .int .i64 9223372036854775807, .int .i64 (-9223372036854775808), .int .i64 9223372036854775807, .int .i64 9223372036854775807, .int .u8 255, .int .i64 (-9223372036854775808), .int .i64 9223372036854775807, .int .i64 (-9223372036854775808), .int .i64 9223372036854775807, .int .u8 255, .int .i64 (-9223372036854775808), .int .i64 9223372036854775807, .int .i64 (-9223372036854775808), .int .i64 9223372036854775807, .int .u8 255, .int .i64 (-9223372036854775808), .int .i64 9223372036854775807, .int .i64 (-9223372036854775808), .int .i64 0, .int .u8 0, .int .i64 0, .int .i64 0, .int .i64 0, .int .i64 9223372036854775807, .int .u8 255, .int .i64 (-9223372036854775808), .int .i64 9223372036854775807, .int .i64 (-9223372036854775808), .int .i64 (-9223372036854775808), .int .u8 0, .int .i64 9223372036854775807, .int .i64 (-9223372036854775808), .int .i64 9223372036854775807, .int .i64 0, .int .u8 0, .int .i64 0, .int .i64 0, .int .i64 0] 55)) := (((Below.refl _ _).alloc (Nat.le_refl _) _).alloc (by rw [hz1]; omega) _).alloc (by rw [hz2]; omega) _
  have hM3 : (((w.alloc (.cells #[.int .i64 9223372036854775807, .int .u8 255, .int .i64 (-9223372036854775808), .int .i64 9223372036854775807, .int .i64 (-9223372036854775808)] 54)).alloc (.cells #[.int .i64 (-9223372036854775808), .int .u8 0, .int .i64 9223372036854775807, .int .i64 (-9223372036854775808), .int .i64 9223372036854775807] 54)).alloc (.cells #[.int .i64 9223372036854775807, .int .u8 255, .int .i64 (-9223372036854775808), .int .i64 9223372036854775807, .int .i64 (-9223372036854775808), .int .i64 (-9223372036854775808), .int .u8 0, .int .i64 9223372036854775807, .int .i64 (-9223372036854775808), .int .i64 9223372036854775807, .int .i64 (-9223372036854775808), .int .u8 0, .int .i64 9223372036854775807, .int .i64 (-9223372036854775808), .int .i64 9223372036854775807, .int .i64 9223372036854775807, .int .u8 255, .int .i64 (-9223372036854775808), .int .i64 9223372036854775807, .int .i64 (-9223372036854775808), .int .i64 9223372036854775807, .int .u8 255, .int .i64 (-9223372036854775808), .int .i64 9223372036854775807, .int .i64 (-9223372036854775808), .int .i64 9223372036854775807, .int .u8 255, .int .i64 (-9223372036854775808), .int .i64 9223372036854775807, .int .i64 (-9223372036854775808), .int .i64 0, .int .u8 0, .int .i64 0, .int .i64 0, .int .i64 0, .int .i64 9223372036854775807, .int .u8 255, .int .i64 (-9223372036854775808), .int .i64 9223372036854775807, .int .i64 (-9223372036854775808), .int .i64 (-9223372036854775808), .int .u8 0, .int .i64 9223372036854775807, .int .i64 (-9223372036854775808), .int .i64 9223372036854775807, .int .i64 0, .int .u8 0, .int .i64 0, .int .i64 0, .int .i64 0] 55)).heap[w.heap.size]? = some (.cells #[.int .i64 9223372036854775807, .int .u8 255, .int .i64 (-9223372036854775808), .int .i64 9223372036854775807, .int .i64 (-9223372036854775808)] 54 (0, 0)) := (heap_alloc_old _ _ (by rw [hz2]; omega)).trans ((heap_alloc_old _ _ (by rw [hz1]; omega)).trans (heap_alloc_new _ _))
  have hP3 : (((w.alloc (.cells #[.int .i64 9223372036854775807, .int .u8 255, .int .i64 (-9223372036854775808), .int .i64 9223372036854775807, .int .i64 (-9223372036854775808)] 54)).alloc (.cells #[.int .i64 (-9223372036854775808), .int .u8 0, .int .i64 9223372036854775807, .int .i64 (-9223372036854775808), .int .i64 9223372036854775807] 54)).alloc (.cells #[.int .i64 9223372036854775807, .int .u8 255, .int .i64 (-9223372036854775808), .int .i64 9223372036854775807, .int .i64 (-9223372036854775808), .int .i64 (-9223372036854775808), .int .u8 0, .int .i64 9223372036854775807, .int .i64 (-9223372036854775808), .int .i64 9223372036854775807, .int .i64 (-9223372036854775808), .int .u8 0, .int .i64 9223372036854775807, .int .i64 (-9223372036854775808), .int .i64 9223372036854775807, .int .i64 9223372036854775807, .int .u8 255, .int .i64 (-9223372036854775808), .int .i64 9223372036854775807, .int .i64 (-9223372036854775808), .int .i64 9223372036854775807, .int .u8 255, .int .i64 (-9223372036854775808), .int .i64 9223372036854775807, .int .i64 (-9223372036854775808), .int .i64 9223372036854775807, .int .u8 255, .int .i64 (-9223372036854775808), .int .i64 9223372036854775807, .int .i64 (-9223372036854775808), .int .i64 0, .int .u8 0, .int .i64 0, .int .i64 0, .int .i64 0, .int .i64 9223372036854775807, .int .u8 255, .int .i64 (-9223372036854775808), .int .i64 9223372036854775807, .int .i64 (-9223372036854775808), .int .i64 (-9223372036854775808), .int .u8 0, .int .i64 9223372036854775807, .int .i64 (-9223372036854775808), .int .i64 9223372036854775807, .int .i64 0, .int .u8 0, .int .i64 0, .int .i64 0, .int .i64 0] 55)).heap[w.heap.size + 2]? = some (.cells #[.int .i64 9223372036854775807, .int .u8 255, .int .i64 (-9223372036854775808), .int .i64 9223372036854775807, .int .i64 (-9223372036854775808), .int .i64 (-9223372036854775808), .int .u8 0, .int .i64 9223372036854775807, .int .i64 (-9223372036854775808), .int .i64 9223372036854775807, .int .i64 (-9223372036854775808), .int .u8 0, .int .i64 9223372036854775807, .int .i64 (-9223372036854775808), .int .i64 9223372036854775807, .int .i64 9223372036854775807, .int .u8 255, .int .i64 (-9223372036854775808), .int .i64 9223372036854775807, .int .i64 (-9223372036854775808), .int .i64 9223372036854775807, .int .u8 255, .int .i64 (-9223372036854775808), .int .i64 9223372036854775807, .int .i64 (-9223372036854775808), .int .i64 9223372036854775807, .int .u8 255, .int .i64 (-9223372036854775808), .int .i64 9223372036854775807, .int .i64 (-9223372036854775808), .int .i64 0, .int .u8 0, .int .i64 0, .int .i64 0, .int .i64 0, .int .i64 9223372036854775807, .int .u8 255, .int .i64 (-9223372036854775808), .int .i64 9223372036854775807, .int .i64 (-9223372036854775808), .int .i64 (-9223372036854775808), .int .u8 0, .int .i64 9223372036854775807, .int .i64 (-9223372036854775808), .int .i64 9223372036854775807, .int .i64 0, .int .u8 0, .int .i64 0, .int .i64 0, .int .i64 0] 55 (0, 0)) := by
    have := heap_alloc_new ((w.alloc (.cells #[.int .i64 9223372036854775807, .int .u8 255, .int .i64 (-9223372036854775808), .int .i64 9223372036854775807, .int .i64 (-9223372036854775808)] 54)).alloc (.cells #[.int .i64 (-9223372036854775808), .int .u8 0, .int .i64 9223372036854775807, .int .i64 (-9223372036854775808), .int .i64 9223372036854775807] 54)) (.cells #[.int .i64 9223372036854775807, .int .u8 255, .int .i64 (-9223372036854775808), .int .i64 9223372036854775807, .int .i64 (-9223372036854775808), .int .i64 (-9223372036854775808), .int .u8 0, .int .i64 9223372036854775807, .int .i64 (-9223372036854775808), .int .i64 9223372036854775807, .int .i64 (-9223372036854775808), .int .u8 0, .int .i64 9223372036854775807, .int .i64 (-9223372036854775808), .int .i64 9223372036854775807, .int .i64 9223372036854775807, .int .u8 255, .int .i64 (-9223372036854775808), .int .i64 9223372036854775807, .int .i64 (-9223372036854775808), .int .i64 9223372036854775807, .int .u8 255, .int .i64 (-9223372036854775808), .int .i64 9223372036854775807, .int .i64 (-9223372036854775808), .int .i64 9223372036854775807, .int .u8 255, .int .i64 (-9223372036854775808), .int .i64 9223372036854775807, .int .i64 (-9223372036854775808), .int .i64 0, .int .u8 0, .int .i64 0, .int .i64 0, .int .i64 0, .int .i64 9223372036854775807, .int .u8 255, .int .i64 (-9223372036854775808), .int .i64 9223372036854775807, .int .i64 (-9223372036854775808), .int .i64 (-9223372036854775808), .int .u8 0, .int .i64 9223372036854775807, .int .i64 (-9223372036854775808), .int .i64 9223372036854775807, .int .i64 0, .int .u8 0, .int .i64 0, .int .i64 0, .int .i64 0] 55)
    rw [hz2] at this
    exact this
  generalize ((w.alloc (.cells #[.int .i64 9223372036854775807, .int .u8 255, .int .i64 (-9223372036854775808), .int .i64 9223372036854775807, .int .i64 (-9223372036854775808)] 54)).alloc (.cells #[.int .i64 (-9223372036854775808), .int .u8 0, .int .i64 9223372036854775807, .int .i64 (-9223372036854775808), .int .i64 9223372036854775807] 54)).alloc (.cells #[.int .i64 9223372036854775807, .int .u8 255, .int .i64 (-9223372036854775808), .int .i64 9223372036854775807, .int .i64 (-9223372036854775808), .int .i64 (-9223372036854775808), .int .u8 0, .int .i64 9223372036854775807, .int .i64 (-9223372036854775808), .int .i64 9223372036854775807, .int .i64 (-9223372036854775808), .int .u8 0, .int .i64 9223372036854775807, .int .i64 (-9223372036854775808), .int .i64 9223372036854775807, .int .i64 9223372036854775807, .int .u8 255, .int .i64 (-9223372036854775808), .int .i64 9223372036854775807, .int .i64 (-9223372036854775808), .int .i64 9223372036854775807, .int .u8 255, .int .i64 (-9223372036854775808), .int .i64 9223372036854775807, .int .i64 (-9223372036854775808), .int .i64 9223372036854775807, .int .u8 255, .int .i64 (-9223372036854775808), .int .i64 9223372036854775807, .int .i64 (-9223372036854775808), .int .i64 0, .int .u8 0, .int .i64 0, .int .i64 0, .int .i64 0, .int .i64 9223372036854775807, .int .u8 255, .int .i64 (-9223372036854775808), .int .i64 9223372036854775807, .int .i64 (-9223372036854775808), .int .i64 (-9223372036854775808), .int .u8 0, .int .i64 9223372036854775807, .int .i64 (-9223372036854775808), .int .i64 9223372036854775807, .int .i64 0, .int .u8 0, .int .i64 0, .int .i64 0, .int .i64 0] 55) = W at hB3 hM3 hP3 ⊢
  have hWs := (Array.getElem?_eq_some_iff.1 hP3).1
  have HM3 := Lib.hid hM3
  have HP3 := Lib.hid hP3
  have HB3 := Lib.hid hB3
  have HBW := Lib.hid hB3
  clear hM3 hP3 hB3 hz1 hz2
  go_loopw [70] (fun q wr => ∃ j : Nat, q = .int .i64 (j : Int) ∧ j ≤ 5 ∧ Below W.heap.size W wr) (fun q _ => 5 - (intOf q).toNat)
  case atStart => exact ⟨0, rfl, by omega, Below.refl _ _⟩
  case round =>
    obtain ⟨j, rfl, hj, hBr⟩ := hrel
    have hzr := hBr.size
    by_cases hj5 : j < 5
    · have hd : decide ((j : Int) < 5) = true := decide_eq_true (by omega)
      obtain ⟨p, e, hp, he, x0, x1, x2, x3, x4, x5, x6, x7, x8, x9⟩ := pairs_at ((hBr.block _ hWs).trans HP3.out) hj5
      have hb1 : Below wr.heap.size wr (wr.alloc (.cells #[.int .i64 p.th, .int .u8 (p.op : Int), .int .i64 p.obj, .int .i64 p.a, .int .i64 p.b, .int .i64 e.th, .int .u8 (e.op : Int), .int .i64 e.obj, .int .i64 e.a, .int .i64 e.b] 55)) := (Below.refl _ _).alloc (Nat.le_refl _) _
      have hq1 : (wr.alloc (.cells #[.int .i64 p.th, .int .u8 (p.op : Int), .int .i64 p.obj, .int .i64 p.a, .int .i64 p.b, .int .i64 e.th, .int .u8 (e.op : Int), .int .i64 e.obj, .int .i64 e.a, .int .i64 e.b] 55)).heap[wr.heap.size]? = some (.cells #[.int .i64 p.th, .int .u8 (p.op : Int), .int .i64 p.obj, .int .i64 p.a, .int .i64 p.b, .int .i64 e.th, .int .u8 (e.op : Int), .int .i64 e.obj, .int .i64 e.a, .int .i64 e.b] 55 (0, 0)) := heap_alloc_new _ _
      go_wp2_with fail
      generalize wr.alloc (.cells #[.int .i64 p.th, .int .u8 (p.op : Int), .int .i64 p.obj, .int .i64 p.a, .int .i64 p.b, .int .i64 e.th, .int .u8 (e.op : Int), .int .i64 e.obj, .int .i64 e.a, .int .i64 e.b] 55) = wk at hb1 hq1 ⊢
      have HB1 := Lib.hid hb1
      refine (Put_any none 0 0 [] e p wk (IsB.nil _) (by decide) he.op).mono ?_
      rintro ex w1 ⟨v, rfl, ho1, hb2⟩
      obtain ⟨B1, m1, d1, rfl, hI1⟩ := own_slice ho1
      have hm1 : (encEv p e).length = m1 := hI1.len
      have hmm := encEv_most p e
      have hq2 := (hb2.block _ (Array.getElem?_eq_some_iff.1 hq1).1).trans hq1
      have HQ2 := Lib.hid hq2
      have y0 := cell_of_row w1 _ 0 _ _ _ hq2
      have y1 := cell_of_row w1 _ 1 _ _ _ hq2
      have y2 := cell_of_row w1 _ 2 _ _ _ hq2
      have y3 := cell_of_row w1 _ 3 _ _ _ hq2
      have y4 := cell_of_row w1 _ 4 _ _ _ hq2
      have hG := Get_any B1 m1 d1 0 _ p w1 hI1 (by omega) (Nat.zero_le _)
      rw [getEv_put p e he, hm1] at hG
      have HG := Lib.hid hG
      have HI1 := Lib.hid hI1
      have HB2 := Lib.hid (HB1.out.trans (hb2.mono HB1.out.size))
      clear ho1 hb1 hb2 hq1 hq2 hI1 hG x0 x1 x2 x3 x4 x5 x6 x7 x8 x9
      go_wp2_with fail
      refine HG.out.mono ?_
      rintro ex w2 ⟨rfl, hb3⟩
      have hq3 := (hb3.block _ (Array.getElem?_eq_some_iff.1 HQ2.out).1).trans HQ2.out
      have HB3 := Lib.hid (HB2.out.trans (hb3.mono HB2.out.size))
      have HI2 := Lib.hid (HI1.out.below hb3)
      have hb4 : Below w2.heap.size w2 (w2.alloc (.cells #[.int .i64 e.th, .int .u8 (e.op : Int), .int .i64 e.obj, .int .i64 e.a, .int .i64 e.b] 54)) := (Below.refl _ _).alloc (Nat.le_refl _) _
      have hq4 := (hb4.block _ (Array.getElem?_eq_some_iff.1 hq3).1).trans hq3
      have HB4 := Lib.hid (HB3.out.trans (hb4.mono HB3.out.size))
      have HI4 := Lib.hid (HI2.out.below hb4)
      have y0 := cell_of_row _ _ 0 _ _ _ hq4
      have y1 := cell_of_row _ _ 1 _ _ _ hq4
      have y2 := cell_of_row _ _ 2 _ _ _ hq4
      have y3 := cell_of_row _ _ 3 _ _ _ hq4
      have y4 := cell_of_row _ _ 4 _ _ _ hq4
      have y5 := cell_of_row _ _ 5 _ _ _ hq4
      have y6 := cell_of_row _ _ 6 _ _ _ hq4
      have y7 := cell_of_row _ _ 7 _ _ _ hq4
      have y8 := cell_of_row _ _ 8 _ _ _ hq4
      have y9 := cell_of_row _ _ 9 _ _ _ hq4
      have heq : ∀ u : World, (Op.equalIn 10000 54 (.agg #[.int .i64 e.th, .int .u8 (e.op : Int), .int .i64 e.obj, .int .i64 e.a, .int .i64 e.b]) (.agg #[.int .i64 e.th, .int .u8 (e.op : Int), .int .i64 e.obj, .int .i64 e.a, .int .i64 e.b])).run Try.prog u = .ok true u := fun u => by rw [run_eqEv, decide_eq_true rfl]
      have hmq : ((m1 : Int) != (m1 : Int)) = false := by simp
      clear hb3 hb4 hq3 hq4 HI1 HB1 HB2 HQ2 HG
      simp only [ansE]
      go_wp2_with fail
      refine (refPut_any none 0 0 [] p e _ (IsB.nil _) (by decide) hp he).mono ?_
      rintro ex w5 ⟨B5, m5, d5, rfl, hI5, hb5⟩
      have HB5 := Lib.hid (HB4.out.trans (hb5.mono HB4.out.size))
      have HY := Lib.hid (same_yes (HI4.out.below hb5) hI5)
      clear y0 y1 y2 y3 y4 y5 y6 y7 y8 y9 heq hI5 hb5 HB3 HI2 HI4 HB4
      go_wp2_with fail
      refine HY.out.mono ?_
      rintro ex w6 ⟨rfl, rfl⟩
      have HB6 := Lib.hid (hBr.trans (HB5.out.mono hzr))
      clear HY HB5
      go_wp2_with fail
      go_roundw
      case rel => exact ⟨j + 1, by go_num, by omega, HB6.out⟩
      case measure => simp [intOf]; omega
    · obtain rfl : j = 5 := by omega
      have HMO : ∀ u, Below W.heap.size W u → u.heap[w.heap.size]? = some (.cells #[.int .i64 9223372036854775807, .int .u8 255, .int .i64 (-9223372036854775808), .int .i64 9223372036854775807, .int .i64 (-9223372036854775808)] 54 (0, 0)) := fun u hb => (hb.block _ (by omega)).trans HM3.out
      have HMO := Lib.hid HMO
      clear HM3 HP3
      obtain ⟨wm, hmk0, hOm, hbm⟩ := zeros_own wr 4096 (by decide)
      have hmk : (Instr.makeSlice 60 (.int .i64 4096) (.int .i64 4096)).run Try.prog wr = .ok (.slice (some ⟨wr.heap.size, 0, none⟩) 4096 4096) wm := hmk0 .i64 .i64
      obtain ⟨es, hes⟩ : ∃ es, es = List.replicate 4096 Ev.zero := ⟨_, rfl⟩
      have hok : ∀ x ∈ es, x.ok := by rw [hes]; exact zeros_ok 4096
      have hel : es.length = 4096 := by rw [hes, List.length_replicate]
      rw [← hes] at hOm
      have HEVS : Evs es := ⟨by omega, by omega, hok⟩
      obtain ⟨A', n', c', he, hIm, -, -⟩ := hOm.is_
      simp only [Value.slice.injEq] at he
      obtain ⟨rfl, rfl, rfl⟩ := he
      have HBm := Lib.hid (hBr.trans (hbm.mono hzr))
      have HOm := Lib.hid hOm
      have hbm_s := hbm.size
      have HF := Lib.hid (Frame_any _ 4096 4096 es wm hIm (by decide) (by decide) hok)
      have hbmost := bodyOf_most (es := es) (by omega)
      have huv := Lib.uvarint_length64 (x := (bodyOf es).length) (by omega)
      have hfl := frameOf_length es
      clear hOm hIm hbm hmk0 hes hBr
      go_wp2_with fail
      refine HF.out.mono ?_
      rintro ex w2 ⟨v, rfl, ho2, hb2⟩
      obtain ⟨B2, m2, d2, rfl, hI2⟩ := own_slice ho2
      have hm2 := hI2.len
      have hrd := rdFrame_frame (l := frameOf es) (r := []) (k := 0) HEVS (by rw [List.drop_zero, List.append_nil])
      rw [Nat.zero_add, hm2] at hrd
      have HR := Lib.hid (Read_lit hI2 (by omega) hrd)
      have HB2 := Lib.hid (HBm.out.trans (hb2.mono HBm.out.size))
      have HO2 := Lib.hid (HOm.out.below hb2)
      have hrs2 := Nat.le_trans hbm_s hb2.size
      clear ho2 hI2 hb2 HF hmk HOm hrd hbmost huv hfl
      go_wp2_with fail
      refine HR.out.mono ?_
      rintro ex w3 ⟨⟨B3, m3, d3, rfl, hO3, hm3⟩, hb3⟩
      rw [hel] at hm3
      obtain rfl : m3 = 4096 := hm3
      have hB3 := HB2.out.trans (hb3.mono HB2.out.size)
      have hb4 : Below w3.heap.size w3 (w3.alloc (.cells #[.int .i64 9223372036854775807, .int .u8 255, .int .i64 (-9223372036854775808), .int .i64 9223372036854775807, .int .i64 (-9223372036854775808)] 54)) := (Below.refl _ _).alloc (Nat.le_refl _) _
      have hc4 : (w3.alloc (.cells #[.int .i64 9223372036854775807, .int .u8 255, .int .i64 (-9223372036854775808), .int .i64 9223372036854775807, .int .i64 (-9223372036854775808)] 54)).heap[w3.heap.size]? = some (.cells #[.int .i64 9223372036854775807, .int .u8 255, .int .i64 (-9223372036854775808), .int .i64 9223372036854775807, .int .i64 (-9223372036854775808)] 54 (0, 0)) := heap_alloc_new _ _
      obtain ⟨v5, w5, hap, A5, c5, rfl, hO5, hA5⟩ := oe_append ((HO2.out.below hb3).below hb4) (Nat.le_trans (Nat.le_trans hrs2 hb3.size) hb4.size) 60 evMost hc4 (by omega)
      have hz3 := hb3.size
      have hbz := hB3.size
      have hB4 := hB3.trans (hb4.mono hbz)
      have hB5 := hB4.trans (hA5.below (B := W.heap.size) hB4.size fun b hb => by
        have e : some wr.heap.size = some b := hb
        injection e with e
        omega)
      have HB5 := Lib.hid hB5
      have hqm := HMO.out _ hB3
      have hqn := HMO.out _ hB4
      have HFL := Lib.hid (Frame_long A5 (4096 + 1) c5 w5 (by decide))
      have y0 := cell_of_row _ _ 0 _ _ _ hqm
      have y1 := cell_of_row _ _ 1 _ _ _ hqm
      have y2 := cell_of_row _ _ 2 _ _ _ hqm
      have y3 := cell_of_row _ _ 3 _ _ _ hqm
      have y4 := cell_of_row _ _ 4 _ _ _ hqm
      have z0 := cell_of_row _ _ 0 _ _ _ hqn
      have z1 := cell_of_row _ _ 1 _ _ _ hqn
      have z2 := cell_of_row _ _ 2 _ _ _ hqn
      have z3 := cell_of_row _ _ 3 _ _ _ hqn
      have z4 := cell_of_row _ _ 4 _ _ _ hqn
      clear hO5 hA5 hB5 hB4 hB3 hb4 hc4 hqm hqn HR HO2 hO3 hb3 hz3 hbz
      go_wp2_with (at_builtin; refine wpList_run _ rfl _ _ 60 rfl (R := fun v' w' => .slice A5 (4096 + 1) c5 = v' ∧ w5 = w') ⟨_, _, hap, rfl, rfl⟩ ?_; rintro v' w' ⟨rfl, rfl⟩)
      refine HFL.out.mono ?_
      rintro ex w6 ⟨rfl, rfl⟩
      clear hap HFL y0 y1 y2 y3 y4 z0 z1 z2 z3 z4
      go_wp2_with fail
      refine (Frame_none none 0 _).mono ?_
      rintro ex w6 ⟨rfl, rfl⟩
      have HW1 := HB5
      have hm1 := HMO.out _ HB5.out
      have y0 := cell_of_row _ _ 0 _ _ _ hm1
      have y1 := cell_of_row _ _ 1 _ _ _ hm1
      have y2 := cell_of_row _ _ 2 _ _ _ hm1
      have y3 := cell_of_row _ _ 3 _ _ _ hm1
      have y4 := cell_of_row _ _ 4 _ _ _ hm1
      have hc1 := Get_any none 0 0 0 [] evMost w5 (IsB.nil _) (by decide) (by decide)
      rw [show getEv evMost [] 0 = _ from gt0 evMost] at hc1
      have HC1 := Lib.hid hc1
      clear hc1 hm1
      go_wp2_with fail
      refine HC1.out.mono ?_
      rintro ex q1 ⟨rfl, hb1⟩
      have hv1 := HW1.out.trans (hb1.mono HW1.out.size)
      have HV1 : Hid (Below W.heap.size W (q1.alloc (.cells #[.int .i64 Ev.zero.th, .int .u8 (Ev.zero.op : Int), .int .i64 Ev.zero.obj, .int .i64 Ev.zero.a, .int .i64 Ev.zero.b] 54))) := hv1.alloc hv1.size _
      clear hb1 HC1 HW1 HB5 hv1 y0 y1 y2 y3 y4
      simp only [ansE]
      have ha2 : Below (q1.alloc (.cells #[.int .i64 Ev.zero.th, .int .u8 (Ev.zero.op : Int), .int .i64 Ev.zero.obj, .int .i64 Ev.zero.a, .int .i64 Ev.zero.b] 54)).heap.size (q1.alloc (.cells #[.int .i64 Ev.zero.th, .int .u8 (Ev.zero.op : Int), .int .i64 Ev.zero.obj, .int .i64 Ev.zero.a, .int .i64 Ev.zero.b] 54)) ((q1.alloc (.cells #[.int .i64 Ev.zero.th, .int .u8 (Ev.zero.op : Int), .int .i64 Ev.zero.obj, .int .i64 Ev.zero.a, .int .i64 Ev.zero.b] 54)).alloc (.cells #[.int .u8 1, .int .u8 2] 5)) := (Below.refl _ _).alloc (Nat.le_refl _) _
      have HW2 := Lib.hid (HV1.out.trans (ha2.mono HV1.out.size))
      have hi2 : IsB ((q1.alloc (.cells #[.int .i64 Ev.zero.th, .int .u8 (Ev.zero.op : Int), .int .i64 Ev.zero.obj, .int .i64 Ev.zero.a, .int .i64 Ev.zero.b] 54)).alloc (.cells #[.int .u8 1, .int .u8 2] 5)) (some ⟨q1.heap.size + 1, 0, none⟩) 2 2 [1, 2] := by
        have h := new_bytes (q1.alloc (.cells #[.int .i64 Ev.zero.th, .int .u8 (Ev.zero.op : Int), .int .i64 Ev.zero.obj, .int .i64 Ev.zero.a, .int .i64 Ev.zero.b] 54)) [1, 2] #[.int .u8 1, .int .u8 2] 5 (0, 0) 2 rfl rfl
        rwa [show (q1.alloc (.cells #[.int .i64 Ev.zero.th, .int .u8 (Ev.zero.op : Int), .int .i64 Ev.zero.obj, .int .i64 Ev.zero.a, .int .i64 Ev.zero.b] 54)).heap.size = q1.heap.size + 1 from Array.size_push _] at h
      have hm2 := HMO.out _ HV1.out
      have y0 := cell_of_row _ _ 0 _ _ _ hm2
      have y1 := cell_of_row _ _ 1 _ _ _ hm2
      have y2 := cell_of_row _ _ 2 _ _ _ hm2
      have y3 := cell_of_row _ _ 3 _ _ _ hm2
      have y4 := cell_of_row _ _ 4 _ _ _ hm2
      have hn2 := HMO.out _ HW2.out
      have z0 := cell_of_row _ _ 0 _ _ _ hn2
      have z1 := cell_of_row _ _ 1 _ _ _ hn2
      have z2 := cell_of_row _ _ 2 _ _ _ hn2
      have z3 := cell_of_row _ _ 3 _ _ _ hn2
      have z4 := cell_of_row _ _ 4 _ _ _ hn2
      have hc2 := Get_any (some ⟨q1.heap.size + 1, 0, none⟩) 2 2 0 [1, 2] evMost ((q1.alloc (.cells #[.int .i64 Ev.zero.th, .int .u8 (Ev.zero.op : Int), .int .i64 Ev.zero.obj, .int .i64 Ev.zero.a, .int .i64 Ev.zero.b] 54)).alloc (.cells #[.int .u8 1, .int .u8 2] 5)) hi2 (by decide) (by decide)
      rw [show getEv evMost [1, 2] 0 = _ from gt1 evMost] at hc2
      have HC2 := Lib.hid hc2
      clear hc2 ha2 hi2 hm2 hn2
      go_wp2_with fail
      refine HC2.out.mono ?_
      rintro ex q2 ⟨rfl, hb2⟩
      have hv2 := HW2.out.trans (hb2.mono HW2.out.size)
      have HV2 : Hid (Below W.heap.size W (q2.alloc (.cells #[.int .i64 Ev.zero.th, .int .u8 (Ev.zero.op : Int), .int .i64 Ev.zero.obj, .int .i64 Ev.zero.a, .int .i64 Ev.zero.b] 54))) := hv2.alloc hv2.size _
      clear hb2 HC2 HW2 HV1 hv2 y0 y1 y2 y3 y4 z0 z1 z2 z3 z4
      simp only [ansE]
      have ha3 : Below (q2.alloc (.cells #[.int .i64 Ev.zero.th, .int .u8 (Ev.zero.op : Int), .int .i64 Ev.zero.obj, .int .i64 Ev.zero.a, .int .i64 Ev.zero.b] 54)).heap.size (q2.alloc (.cells #[.int .i64 Ev.zero.th, .int .u8 (Ev.zero.op : Int), .int .i64 Ev.zero.obj, .int .i64 Ev.zero.a, .int .i64 Ev.zero.b] 54)) ((q2.alloc (.cells #[.int .i64 Ev.zero.th, .int .u8 (Ev.zero.op : Int), .int .i64 Ev.zero.obj, .int .i64 Ev.zero.a, .int .i64 Ev.zero.b] 54)).alloc (.cells #[.int .u8 1, .int .u8 128, .int .u8 0, .int .u8 0, .int .u8 0, .int .u8 0] 5)) := (Below.refl _ _).alloc (Nat.le_refl _) _
      have HW3 := Lib.hid (HV2.out.trans (ha3.mono HV2.out.size))
      have hi3 : IsB ((q2.alloc (.cells #[.int .i64 Ev.zero.th, .int .u8 (Ev.zero.op : Int), .int .i64 Ev.zero.obj, .int .i64 Ev.zero.a, .int .i64 Ev.zero.b] 54)).alloc (.cells #[.int .u8 1, .int .u8 128, .int .u8 0, .int .u8 0, .int .u8 0, .int .u8 0] 5)) (some ⟨q2.heap.size + 1, 0, none⟩) 6 6 [1, 128, 0, 0, 0, 0] := by
        have h := new_bytes (q2.alloc (.cells #[.int .i64 Ev.zero.th, .int .u8 (Ev.zero.op : Int), .int .i64 Ev.zero.obj, .int .i64 Ev.zero.a, .int .i64 Ev.zero.b] 54)) [1, 128, 0, 0, 0, 0] #[.int .u8 1, .int .u8 128, .int .u8 0, .int .u8 0, .int .u8 0, .int .u8 0] 5 (0, 0) 6 rfl rfl
        rwa [show (q2.alloc (.cells #[.int .i64 Ev.zero.th, .int .u8 (Ev.zero.op : Int), .int .i64 Ev.zero.obj, .int .i64 Ev.zero.a, .int .i64 Ev.zero.b] 54)).heap.size = q2.heap.size + 1 from Array.size_push _] at h
      have hm3 := HMO.out _ HV2.out
      have y0 := cell_of_row _ _ 0 _ _ _ hm3
      have y1 := cell_of_row _ _ 1 _ _ _ hm3
      have y2 := cell_of_row _ _ 2 _ _ _ hm3
      have y3 := cell_of_row _ _ 3 _ _ _ hm3
      have y4 := cell_of_row _ _ 4 _ _ _ hm3
      have hn3 := HMO.out _ HW3.out
      have z0 := cell_of_row _ _ 0 _ _ _ hn3
      have z1 := cell_of_row _ _ 1 _ _ _ hn3
      have z2 := cell_of_row _ _ 2 _ _ _ hn3
      have z3 := cell_of_row _ _ 3 _ _ _ hn3
      have z4 := cell_of_row _ _ 4 _ _ _ hn3
      have hc3 := Get_any (some ⟨q2.heap.size + 1, 0, none⟩) 6 6 0 [1, 128, 0, 0, 0, 0] evMost ((q2.alloc (.cells #[.int .i64 Ev.zero.th, .int .u8 (Ev.zero.op : Int), .int .i64 Ev.zero.obj, .int .i64 Ev.zero.a, .int .i64 Ev.zero.b] 54)).alloc (.cells #[.int .u8 1, .int .u8 128, .int .u8 0, .int .u8 0, .int .u8 0, .int .u8 0] 5)) hi3 (by decide) (by decide)
      rw [show getEv evMost [1, 128, 0, 0, 0, 0] 0 = _ from gt2 evMost] at hc3
      have HC3 := Lib.hid hc3
      clear hc3 ha3 hi3 hm3 hn3
      go_wp2_with fail
      refine HC3.out.mono ?_
      rintro ex q3 ⟨rfl, hb3⟩
      have hv3 := HW3.out.trans (hb3.mono HW3.out.size)
      have HV3 : Hid (Below W.heap.size W (q3.alloc (.cells #[.int .i64 Ev.zero.th, .int .u8 (Ev.zero.op : Int), .int .i64 Ev.zero.obj, .int .i64 Ev.zero.a, .int .i64 Ev.zero.b] 54))) := hv3.alloc hv3.size _
      clear hb3 HC3 HW3 HV2 hv3 y0 y1 y2 y3 y4 z0 z1 z2 z3 z4
      simp only [ansE]
      have HW4 := HV3
      have hm4 := HMO.out _ HV3.out
      have y0 := cell_of_row _ _ 0 _ _ _ hm4
      have y1 := cell_of_row _ _ 1 _ _ _ hm4
      have y2 := cell_of_row _ _ 2 _ _ _ hm4
      have y3 := cell_of_row _ _ 3 _ _ _ hm4
      have y4 := cell_of_row _ _ 4 _ _ _ hm4
      have hc4 := Get_out none 0 0 (1) evMost (q3.alloc (.cells #[.int .i64 Ev.zero.th, .int .u8 (Ev.zero.op : Int), .int .i64 Ev.zero.obj, .int .i64 Ev.zero.a, .int .i64 Ev.zero.b] 54)) (by decide)
      have HC4 := Lib.hid hc4
      clear hc4 hm4
      go_wp2_with fail
      refine HC4.out.mono ?_
      rintro ex q4 ⟨rfl, hb4⟩
      have hv4 := HW4.out.trans (hb4.mono HW4.out.size)
      have HV4 : Hid (Below W.heap.size W (q4.alloc (.cells #[.int .i64 Ev.zero.th, .int .u8 (Ev.zero.op : Int), .int .i64 Ev.zero.obj, .int .i64 Ev.zero.a, .int .i64 Ev.zero.b] 54))) := hv4.alloc hv4.size _
      clear hb4 HC4 HW4 HV3 hv4 y0 y1 y2 y3 y4
      simp only [ansE]
      have HW5 := HV4
      have hm5 := HMO.out _ HV4.out
      have y0 := cell_of_row _ _ 0 _ _ _ hm5
      have y1 := cell_of_row _ _ 1 _ _ _ hm5
      have y2 := cell_of_row _ _ 2 _ _ _ hm5
      have y3 := cell_of_row _ _ 3 _ _ _ hm5
      have y4 := cell_of_row _ _ 4 _ _ _ hm5
      have hc5 := Get_out none 0 0 (-1) evMost (q4.alloc (.cells #[.int .i64 Ev.zero.th, .int .u8 (Ev.zero.op : Int), .int .i64 Ev.zero.obj, .int .i64 Ev.zero.a, .int .i64 Ev.zero.b] 54)) (by decide)
      have HC5 := Lib.hid hc5
      clear hc5 hm5
      go_wp2_with fail
      refine HC5.out.mono ?_
      rintro ex q5 ⟨rfl, hb5⟩
      have hv5 := HW5.out.trans (hb5.mono HW5.out.size)
      have HV5 : Hid (Below W.heap.size W (q5.alloc (.cells #[.int .i64 Ev.zero.th, .int .u8 (Ev.zero.op : Int), .int .i64 Ev.zero.obj, .int .i64 Ev.zero.a, .int .i64 Ev.zero.b] 54))) := hv5.alloc hv5.size _
      clear hb5 HC5 HW5 HV4 hv5 y0 y1 y2 y3 y4
      simp only [ansE]
      have ha6 : Below (q5.alloc (.cells #[.int .i64 Ev.zero.th, .int .u8 (Ev.zero.op : Int), .int .i64 Ev.zero.obj, .int .i64 Ev.zero.a, .int .i64 Ev.zero.b] 54)).heap.size (q5.alloc (.cells #[.int .i64 Ev.zero.th, .int .u8 (Ev.zero.op : Int), .int .i64 Ev.zero.obj, .int .i64 Ev.zero.a, .int .i64 Ev.zero.b] 54)) ((q5.alloc (.cells #[.int .i64 Ev.zero.th, .int .u8 (Ev.zero.op : Int), .int .i64 Ev.zero.obj, .int .i64 Ev.zero.a, .int .i64 Ev.zero.b] 54)).alloc (.cells #[.int .u8 129, .int .u8 128, .int .u8 16] 5)) := (Below.refl _ _).alloc (Nat.le_refl _) _
      have HW6 := Lib.hid (HV5.out.trans (ha6.mono HV5.out.size))
      have hi6 : IsB ((q5.alloc (.cells #[.int .i64 Ev.zero.th, .int .u8 (Ev.zero.op : Int), .int .i64 Ev.zero.obj, .int .i64 Ev.zero.a, .int .i64 Ev.zero.b] 54)).alloc (.cells #[.int .u8 129, .int .u8 128, .int .u8 16] 5)) (some ⟨q5.heap.size + 1, 0, none⟩) 3 3 [129, 128, 16] := by
        have h := new_bytes (q5.alloc (.cells #[.int .i64 Ev.zero.th, .int .u8 (Ev.zero.op : Int), .int .i64 Ev.zero.obj, .int .i64 Ev.zero.a, .int .i64 Ev.zero.b] 54)) [129, 128, 16] #[.int .u8 129, .int .u8 128, .int .u8 16] 5 (0, 0) 3 rfl rfl
        rwa [show (q5.alloc (.cells #[.int .i64 Ev.zero.th, .int .u8 (Ev.zero.op : Int), .int .i64 Ev.zero.obj, .int .i64 Ev.zero.a, .int .i64 Ev.zero.b] 54)).heap.size = q5.heap.size + 1 from Array.size_push _] at h
      have hc6 := Read_lit (w := ((q5.alloc (.cells #[.int .i64 Ev.zero.th, .int .u8 (Ev.zero.op : Int), .int .i64 Ev.zero.obj, .int .i64 Ev.zero.a, .int .i64 Ev.zero.b] 54)).alloc (.cells #[.int .u8 129, .int .u8 128, .int .u8 16] 5))) (A := (some ⟨q5.heap.size + 1, 0, none⟩)) (n := 3) (c := 3) hi6 (by decide) rdn1
      have HC6 := Lib.hid hc6
      clear hc6 ha6 hi6
      go_wp2_with fail
      refine HC6.out.mono ?_
      rintro ex q6 ⟨⟨R6, s6, d6, rfl, hO6, -⟩, hb6⟩
      have HV6 := Lib.hid (HW6.out.trans (hb6.mono HW6.out.size))
      clear hb6 HC6 HW6 HV5 hO6
      have ha7 : Below q6.heap.size q6 (q6.alloc (.cells #[.int .u8 1, .int .u8 0, .int .u8 0, .int .u8 0, .int .u8 0, .int .u8 0] 5)) := (Below.refl _ _).alloc (Nat.le_refl _) _
      have HW7 := Lib.hid (HV6.out.trans (ha7.mono HV6.out.size))
      have hi7 : IsB (q6.alloc (.cells #[.int .u8 1, .int .u8 0, .int .u8 0, .int .u8 0, .int .u8 0, .int .u8 0] 5)) (some ⟨q6.heap.size, 0, none⟩) 6 6 [1, 0, 0, 0, 0, 0] := by
        have h := new_bytes q6 [1, 0, 0, 0, 0, 0] #[.int .u8 1, .int .u8 0, .int .u8 0, .int .u8 0, .int .u8 0, .int .u8 0] 5 (0, 0) 6 rfl rfl
        exact h
      have hc7 := Read_lit (w := (q6.alloc (.cells #[.int .u8 1, .int .u8 0, .int .u8 0, .int .u8 0, .int .u8 0, .int .u8 0] 5))) (A := (some ⟨q6.heap.size, 0, none⟩)) (n := 6) (c := 6) hi7 (by decide) rdn2
      have HC7 := Lib.hid hc7
      clear hc7 ha7 hi7
      go_wp2_with fail
      refine HC7.out.mono ?_
      rintro ex q7 ⟨⟨R7, s7, d7, rfl, hO7, -⟩, hb7⟩
      have HV7 := Lib.hid (HW7.out.trans (hb7.mono HW7.out.size))
      clear hb7 HC7 HW7 HV6 hO7
      have HW8 := HV7
      have hc8 := Read_lit (w := q7) (A := none) (n := 0) (c := 0) (IsB.nil _) (by decide) rdn3
      have HC8 := Lib.hid hc8
      clear hc8
      go_wp2_with fail
      refine HC8.out.mono ?_
      rintro ex q8 ⟨⟨R8, s8, d8, rfl, hO8, -⟩, hb8⟩
      have HV8 := Lib.hid (HW8.out.trans (hb8.mono HW8.out.size))
      clear hb8 HC8 HW8 HV7 hO8
      have HW9 := HV8
      have hc9 := Read_out none 0 0 1 [] q8 (IsB.nil _) (by decide) (.inr (by decide))
      have HC9 := Lib.hid hc9
      clear hc9
      go_wp2_with fail
      refine HC9.out.mono ?_
      rintro ex q9 ⟨⟨v9, rfl, hO9⟩, hb9⟩
      have HV9 := Lib.hid (HW9.out.trans (hb9.mono HW9.out.size))
      clear hb9 HC9 HW9 HV8 hO9
      have ha10 : Below q9.heap.size q9 (q9.alloc (.cells #[.int .u8 128, .int .u8 0] 5)) := (Below.refl _ _).alloc (Nat.le_refl _) _
      have HW10 := Lib.hid (HV9.out.trans (ha10.mono HV9.out.size))
      have hi10 : IsB (q9.alloc (.cells #[.int .u8 128, .int .u8 0] 5)) (some ⟨q9.heap.size, 0, none⟩) 2 2 [128, 0] := by
        have h := new_bytes q9 [128, 0] #[.int .u8 128, .int .u8 0] 5 (0, 0) 2 rfl rfl
        exact h
      have hc10 := Read_lit (w := (q9.alloc (.cells #[.int .u8 128, .int .u8 0] 5))) (A := (some ⟨q9.heap.size, 0, none⟩)) (n := 2) (c := 2) hi10 (by decide) rdn4
      have HC10 := Lib.hid hc10
      clear hc10 ha10 hi10
      go_wp2_with fail
      refine HC10.out.mono ?_
      rintro ex q10 ⟨⟨R10, s10, d10, rfl, hO10, -⟩, hb10⟩
      have HV10 := Lib.hid (HW10.out.trans (hb10.mono HW10.out.size))
      clear hb10 HC10 HW10 HV9 hO10
      go_wp2_with fail
      refine (wrong_is (IsB.nil _) (by decide) wr0).mono ?_
      rintro ex x0 ⟨rfl, hb0⟩
      have HX0 := Lib.hid (HV10.out.trans (hb0.mono HV10.out.size))
      clear hb0
      have ha1 : Below x0.heap.size x0 (x0.alloc (.cells #[.int .u8 0] 5)) := (Below.refl _ _).alloc (Nat.le_refl _) _
      have HW1 := Lib.hid (HX0.out.trans (ha1.mono HX0.out.size))
      have hi1 : IsB (x0.alloc (.cells #[.int .u8 0] 5)) (some ⟨x0.heap.size, 0, none⟩) 1 1 [0] := new_bytes x0 [0] #[.int .u8 0] 5 (0, 0) 1 rfl rfl
      have HC1 := Lib.hid (wrong_is hi1 (by decide) wr1)
      clear ha1 hi1
      go_wp2_with fail
      refine HC1.out.mono ?_
      rintro ex x1 ⟨rfl, hb1⟩
      have HX1 := Lib.hid (HW1.out.trans (hb1.mono HW1.out.size))
      clear hb1 HC1 HW1 HX0
      have ha2 : Below x1.heap.size x1 (x1.alloc (.cells #[.int .u8 1] 5)) := (Below.refl _ _).alloc (Nat.le_refl _) _
      have HW2 := Lib.hid (HX1.out.trans (ha2.mono HX1.out.size))
      have hi2 : IsB (x1.alloc (.cells #[.int .u8 1] 5)) (some ⟨x1.heap.size, 0, none⟩) 1 1 [1] := new_bytes x1 [1] #[.int .u8 1] 5 (0, 0) 1 rfl rfl
      have HC2 := Lib.hid (wrong_is hi2 (by decide) wr2)
      clear ha2 hi2
      go_wp2_with fail
      refine HC2.out.mono ?_
      rintro ex x2 ⟨rfl, hb2⟩
      have HX2 := Lib.hid (HW2.out.trans (hb2.mono HW2.out.size))
      clear hb2 HC2 HW2 HX1
      have ha3 : Below x2.heap.size x2 (x2.alloc (.cells #[.int .u8 1, .int .u8 0, .int .u8 0, .int .u8 0, .int .u8 0] 5)) := (Below.refl _ _).alloc (Nat.le_refl _) _
      have HW3 := Lib.hid (HX2.out.trans (ha3.mono HX2.out.size))
      have hi3 : IsB (x2.alloc (.cells #[.int .u8 1, .int .u8 0, .int .u8 0, .int .u8 0, .int .u8 0] 5)) (some ⟨x2.heap.size, 0, none⟩) 5 5 [1, 0, 0, 0, 0] := new_bytes x2 [1, 0, 0, 0, 0] #[.int .u8 1, .int .u8 0, .int .u8 0, .int .u8 0, .int .u8 0] 5 (0, 0) 5 rfl rfl
      have HC3 := Lib.hid (wrong_is hi3 (by decide) wr3)
      clear ha3 hi3
      go_wp2_with fail
      refine HC3.out.mono ?_
      rintro ex x3 ⟨rfl, hb3⟩
      have HX3 := Lib.hid (HW3.out.trans (hb3.mono HW3.out.size))
      clear hb3 HC3 HW3 HX2
      have ha4 : Below x3.heap.size x3 (x3.alloc (.cells #[.int .u8 1, .int .u8 0, .int .u8 0, .int .u8 0, .int .u8 0, .int .u8 0, .int .u8 0] 5)) := (Below.refl _ _).alloc (Nat.le_refl _) _
      have HW4 := Lib.hid (HX3.out.trans (ha4.mono HX3.out.size))
      have hi4 : IsB (x3.alloc (.cells #[.int .u8 1, .int .u8 0, .int .u8 0, .int .u8 0, .int .u8 0, .int .u8 0, .int .u8 0] 5)) (some ⟨x3.heap.size, 0, none⟩) 7 7 [1, 0, 0, 0, 0, 0, 0] := new_bytes x3 [1, 0, 0, 0, 0, 0, 0] #[.int .u8 1, .int .u8 0, .int .u8 0, .int .u8 0, .int .u8 0, .int .u8 0, .int .u8 0] 5 (0, 0) 7 rfl rfl
      have HC4 := Lib.hid (wrong_is hi4 (by decide) wr4)
      clear ha4 hi4
      go_wp2_with fail
      refine HC4.out.mono ?_
      rintro ex x4 ⟨rfl, hb4⟩
      have HX4 := Lib.hid (HW4.out.trans (hb4.mono HW4.out.size))
      clear hb4 HC4 HW4 HX3
      have ha5 : Below x4.heap.size x4 (x4.alloc (.cells #[.int .u8 2, .int .u8 0, .int .u8 0, .int .u8 0, .int .u8 0, .int .u8 0] 5)) := (Below.refl _ _).alloc (Nat.le_refl _) _
      have HW5 := Lib.hid (HX4.out.trans (ha5.mono HX4.out.size))
      have hi5 : IsB (x4.alloc (.cells #[.int .u8 2, .int .u8 0, .int .u8 0, .int .u8 0, .int .u8 0, .int .u8 0] 5)) (some ⟨x4.heap.size, 0, none⟩) 6 6 [2, 0, 0, 0, 0, 0] := new_bytes x4 [2, 0, 0, 0, 0, 0] #[.int .u8 2, .int .u8 0, .int .u8 0, .int .u8 0, .int .u8 0, .int .u8 0] 5 (0, 0) 6 rfl rfl
      have HC5 := Lib.hid (wrong_is hi5 (by decide) wr5)
      clear ha5 hi5
      go_wp2_with fail
      refine HC5.out.mono ?_
      rintro ex x5 ⟨rfl, hb5⟩
      have HX5 := Lib.hid (HW5.out.trans (hb5.mono HW5.out.size))
      clear hb5 HC5 HW5 HX4
      have ha6 : Below x5.heap.size x5 (x5.alloc (.cells #[.int .u8 129, .int .u8 32] 5)) := (Below.refl _ _).alloc (Nat.le_refl _) _
      have HW6 := Lib.hid (HX5.out.trans (ha6.mono HX5.out.size))
      have hi6 : IsB (x5.alloc (.cells #[.int .u8 129, .int .u8 32] 5)) (some ⟨x5.heap.size, 0, none⟩) 2 2 [129, 32] := new_bytes x5 [129, 32] #[.int .u8 129, .int .u8 32] 5 (0, 0) 2 rfl rfl
      have HC6 := Lib.hid (wrong_is hi6 (by decide) wr6)
      clear ha6 hi6
      go_wp2_with fail
      refine HC6.out.mono ?_
      rintro ex x6 ⟨rfl, hb6⟩
      have HX6 := Lib.hid (HW6.out.trans (hb6.mono HW6.out.size))
      clear hb6 HC6 HW6 HX5
      have ha7 : Below x6.heap.size x6 (x6.alloc (.cells #[.int .u8 128, .int .u8 0] 5)) := (Below.refl _ _).alloc (Nat.le_refl _) _
      have HW7 := Lib.hid (HX6.out.trans (ha7.mono HX6.out.size))
      have hi7 : IsB (x6.alloc (.cells #[.int .u8 128, .int .u8 0] 5)) (some ⟨x6.heap.size, 0, none⟩) 2 2 [128, 0] := new_bytes x6 [128, 0] #[.int .u8 128, .int .u8 0] 5 (0, 0) 2 rfl rfl
      have HC7 := Lib.hid (wrong_is hi7 (by decide) wr7)
      clear ha7 hi7
      go_wp2_with fail
      refine HC7.out.mono ?_
      rintro ex x7 ⟨rfl, hb7⟩
      have HX7 := Lib.hid (HW7.out.trans (hb7.mono HW7.out.size))
      clear hb7 HC7 HW7 HX6
      go_wp2_with fail
      refine (awake3_any _).mono ?_
      rintro ex x9 ⟨rfl, hb9⟩
      go_wp2_with fail
      go_ret
      exact ⟨rfl, HBW.out.trans ((HX7.out.trans (hb9.mono HX7.out.size)).mono HBW.out.size)⟩
end Go.Proofs.Ytiockkphciadeaa
