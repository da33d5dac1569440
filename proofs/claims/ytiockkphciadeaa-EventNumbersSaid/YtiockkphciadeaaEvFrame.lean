/-
  A frame's body, and Frame.
-/
import Derived.Test.YtiockkphciadeaaEvPutB
set_option linter.unusedVariables false
set_option linter.unusedSimpArgs false
namespace Go.Proofs.Ytiockkphciadeaa
open Go.RowKit
open Go.Lib (byteCells byteCells_length byteCells_append uvarint)

theorem uint_nil' (x : Nat) (w : World) (hx : x < 18446744073709551616) :
    Calls Try.prog 78 #[.slice none 0 0, .int .u64 (x : Int)] w fun e w' =>
      ∃ v, e = .returned v ∧ Own w' w.heap.size 5 v (uvarint x) ∧ Below w.heap.size w w' := by
  have := uint_any none 0 0 x [] w (IsB.nil w) (by omega) hx
  simpa using this
theorem set5 {w : World} {g : Nat} {t : TypeId} {a0 a1 a2 a3 a4 : Value} (h : w.heap[g]? = some (.cells #[a0, a1, a2, a3, a4] t (0, 0))) (v0 v1 v2 v3 v4 : Value) :
    (((((w.setCell ⟨g, 0, none⟩ v0).setCell ⟨g, 1, none⟩ v1).setCell ⟨g, 2, none⟩ v2).setCell ⟨g, 3, none⟩ v3).setCell ⟨g, 4, none⟩ v4).heap[g]? = some (.cells #[v0, v1, v2, v3, v4] t (0, 0)) ∧
    Away (fun b => b = g) w (((((w.setCell ⟨g, 0, none⟩ v0).setCell ⟨g, 1, none⟩ v1).setCell ⟨g, 2, none⟩ v2).setCell ⟨g, 3, none⟩ v3).setCell ⟨g, 4, none⟩ v4) := by
  refine ⟨?_, ((((Away.setCell w ⟨g, 0, none⟩ v0).trans (Away.setCell _ ⟨g, 1, none⟩ v1) fun b e => .inl e).trans (Away.setCell _ ⟨g, 2, none⟩ v2) fun b e => .inl e).trans (Away.setCell _ ⟨g, 3, none⟩ v3) fun b e => .inl e).trans (Away.setCell _ ⟨g, 4, none⟩ v4) fun b e => .inl e⟩
  rw [set_blk (set_blk (set_blk (set_blk (set_blk h 0 v0) 1 v1) 2 v2) 3 v3) 4 v4]
  rfl
theorem body_short {es : List Ev} (h : es.length ≤ 4096) (j : Nat) : (uvarint es.length ++ encEvs Ev.zero (es.take j)).length ≤ 800000 := by
  have h1 := encEvs_most (es.take j) Ev.zero
  have h2 := Lib.uvarint_length64 (x := es.length) (by omega)
  rw [List.length_append]
  rw [List.length_take] at h1
  omega
theorem take_snoc {es : List Ev} {j : Nat} {x : Ev} (hx : es[j]? = some x) : es.take (j + 1) = es.take j ++ [x] := by
  obtain ⟨hj, ex⟩ := List.getElem?_eq_some_iff.1 hx
  rw [List.take_succ_eq_append_getElem hj, ex]

set_option maxRecDepth 100000 in
set_option maxHeartbeats 2000000 in
theorem body_any (A : Option Addr) (n c : Nat) (es : List Ev) (w : World) (h : IsEv w A n c es) (hn : n ≤ 4096) (hok : ∀ x ∈ es, x.ok) :
    Calls Try.prog 77 #[.slice A n c] w fun e w' => ∃ v, e = .returned v ∧ Own w' w.heap.size 5 v (bodyOf es) ∧ Below w.heap.size w w' := by
  have hlen := h.len
  have hwr : IntKind.u64.wrap (n : Int) = (n : Int) := by rw [IntKind.wrap_u64]; omega
  have HL := Lib.hid hlen
  have HSH := fun j => Lib.hid (body_short (es := es) (by omega) j)
  go_enter Try.func77, Try.ntmps77
  go_wp2_with fail
  refine (uint_nil' n w (by omega)).mono ?_
  rintro e w1 ⟨v, rfl, ho, hb1⟩
  obtain ⟨r0, rfl, hc0, hr0⟩ := row_of_own ho 0 rfl
  have hg0 : ∀ b, r0.g = some b → w.heap.size ≤ b := fun b hb => (World.ownsRow.lt ho b (by rw [Raw.own, hb])).1
  have hz1 := hb1.size
  clear ho hlen
  go_wp2_with fail
  have hab : (w1.alloc (.cells #[.int .i64 0, .int .u8 0, .int .i64 0, .int .i64 0, .int .i64 0] 54)).heap[w1.heap.size]? = some (.cells #[.int .i64 0, .int .u8 0, .int .i64 0, .int .i64 0, .int .i64 0] 54 (0, 0)) := heap_alloc_new _ _
  have hb2 : Below w1.heap.size w1 (w1.alloc (.cells #[.int .i64 0, .int .u8 0, .int .i64 0, .int .i64 0, .int .i64 0] 54)) := (Below.refl _ _).alloc (Nat.le_refl _) _
  have hr2 := hr0.away (Away.of_new hb2 (fun _ => False)) fun _ _ f => f
  have hB2 := bstep0 hb1 hb2
  clear hb1 hb2 hr0
  go_loopw [3, 13] (fun v q wr => ∃ (j : Nat) (r : Raw) (p : Ev), q = .int .i64 (j : Int) ∧ j ≤ n ∧ v = r.sl ∧ FRow wr r ∧ Hid (r.c = (uvarint es.length ++ encEvs Ev.zero (es.take j), 0)) ∧ Hid (p = lastEv Ev.zero (es.take j)) ∧
    wr.heap[w1.heap.size]? = some (.cells #[.int .i64 p.th, .int .u8 (p.op : Int), .int .i64 p.obj, .int .i64 p.a, .int .i64 p.b] 54 (0, 0)) ∧ (∀ b, r.g = some b → w.heap.size ≤ b) ∧ Below w.heap.size w wr) (fun _ q _ => n - (intOf q).toNat)
  case atStart => exact ⟨0, r0, Ev.zero, rfl, by omega, rfl, hr2, by show _ = _; rw [hc0, List.take_zero, HL.out]; simp [encEvs], by show _ = _; rw [List.take_zero]; rfl, hab, hg0, hB2⟩
  case round =>
    clear hab hr2 hB2 hg0 hc0
    obtain ⟨j, r, p, rfl, hj, rfl, hr, hc, hp, hab, hg, hB⟩ := hrel
    by_cases hjn : j < n
    · obtain ⟨b, o, x, rfl, hx, c0, c1, c2, c3, c4⟩ := (h.below hB).at_ hjn
      have hxo := (hok x (List.mem_of_getElem? hx)).op
      have hd : decide ((j : Int) < (n : Int)) = true := decide_eq_true (by omega)
      have HX := Lib.hid hx
      have a0 : wr.cell? ⟨w1.heap.size, 0, none⟩ = some (.int .i64 p.th) := cell_of_row _ _ 0 _ _ _ hab
      have a1 : wr.cell? ⟨w1.heap.size, 1, none⟩ = some (.int .u8 (p.op : Int)) := cell_of_row _ _ 1 _ _ _ hab
      have a2 : wr.cell? ⟨w1.heap.size, 2, none⟩ = some (.int .i64 p.obj) := cell_of_row _ _ 2 _ _ _ hab
      have a3 : wr.cell? ⟨w1.heap.size, 3, none⟩ = some (.int .i64 p.a) := cell_of_row _ _ 3 _ _ _ hab
      have a4 : wr.cell? ⟨w1.heap.size, 4, none⟩ = some (.int .i64 p.b) := cell_of_row _ _ 4 _ _ _ hab
      have hla := (Array.getElem?_eq_some_iff.1 hab).1
      have HAB := Lib.hid hab
      have hB' := Lib.hid hB
      have hzr := hB.size
      clear h hx hab hB
      go_wp2_with fail
      have hbx : Below wr.heap.size wr (wr.alloc (.cells #[.int .i64 x.th, .int .u8 (x.op : Int), .int .i64 x.obj, .int .i64 x.a, .int .i64 x.b] 54)) := (Below.refl _ _).alloc (Nat.le_refl _) _
      have hxb : (wr.alloc (.cells #[.int .i64 x.th, .int .u8 (x.op : Int), .int .i64 x.obj, .int .i64 x.a, .int .i64 x.b] 54)).heap[wr.heap.size]? = some (.cells #[.int .i64 x.th, .int .u8 (x.op : Int), .int .i64 x.obj, .int .i64 x.a, .int .i64 x.b] 54 (0, 0)) := heap_alloc_new _ _
      have hab' := (hbx.block _ hla).trans HAB.out
      have hrx := hr.away (Away.of_new hbx (fun _ => False)) fun _ _ f => f
      have hn1 : ∀ b, r.g = some b → b ≠ w1.heap.size ∧ b ≠ wr.heap.size := fun b hb => by
        obtain ⟨cs, hcs⟩ := row_type hrx hb
        refine ⟨?_, ?_⟩ <;> rintro rfl
        · rw [hab'] at hcs; simp at hcs
        · rw [hxb] at hcs; simp at hcs
      refine (put_row (e := x) (p := p) hrx (by rw [hc.out]) (by rw [hc.out]; exact (HSH j).out) hxo).mono ?_
      rintro e w3 ⟨r', rfl, hr3, hc3, hg3, hA3⟩
      have hab3 := (hA3.block _ (Array.getElem?_eq_some_iff.1 hab').1 fun e => (hn1 _ e).1 rfl).trans hab'
      have hxb3 := (hA3.block _ (Array.getElem?_eq_some_iff.1 hxb).1 fun e => (hn1 _ e).2 rfl).trans hxb
      have y0 : w3.cell? ⟨wr.heap.size, 0, none⟩ = some (.int .i64 x.th) := cell_of_row _ _ 0 _ _ _ hxb3
      have y1 : w3.cell? ⟨wr.heap.size, 1, none⟩ = some (.int .u8 (x.op : Int)) := cell_of_row _ _ 1 _ _ _ hxb3
      have y2 : w3.cell? ⟨wr.heap.size, 2, none⟩ = some (.int .i64 x.obj) := cell_of_row _ _ 2 _ _ _ hxb3
      have y3 : w3.cell? ⟨wr.heap.size, 3, none⟩ = some (.int .i64 x.a) := cell_of_row _ _ 3 _ _ _ hxb3
      have y4 : w3.cell? ⟨wr.heap.size, 4, none⟩ = some (.int .i64 x.b) := cell_of_row _ _ 4 _ _ _ hxb3
      have z0 : w3.cell? ⟨w1.heap.size, 0, none⟩ = some (.int .i64 p.th) := cell_of_row _ _ 0 _ _ _ hab3
      have z1 : w3.cell? ⟨w1.heap.size, 1, none⟩ = some (.int .u8 (p.op : Int)) := cell_of_row _ _ 1 _ _ _ hab3
      have z2 : w3.cell? ⟨w1.heap.size, 2, none⟩ = some (.int .i64 p.obj) := cell_of_row _ _ 2 _ _ _ hab3
      have z3 : w3.cell? ⟨w1.heap.size, 3, none⟩ = some (.int .i64 p.a) := cell_of_row _ _ 3 _ _ _ hab3
      have z4 : w3.cell? ⟨w1.heap.size, 4, none⟩ = some (.int .i64 p.b) := cell_of_row _ _ 4 _ _ _ hab3
      have zf0 := free_of_row hab3 0
      have zf1 := free_of_row hab3 1
      have zf2 := free_of_row hab3 2
      have zf3 := free_of_row hab3 3
      have zf4 := free_of_row hab3 4
      have hne : wr.heap.size ≠ w1.heap.size := by omega
      have HAB3 := Lib.hid hab3
      have hB3 : Below w.heap.size w w3 := (hB'.out.trans (hbx.mono hzr)).trans (hA3.below (by simp; omega) fun b hb => hg b hb)
      clear a0 a1 a2 a3 a4 c0 c1 c2 c3 c4 hab' hxb hab3 hxb3 hbx hrx
      go_wp2_with fail
      obtain ⟨hs5, hA5⟩ := set5 HAB3.out (.int .i64 x.th) (.int .u8 (x.op : Int)) (.int .i64 x.obj) (.int .i64 x.a) (.int .i64 x.b)
      have hrn : ∀ b, r'.g = some b → b ≠ w1.heap.size := fun b hb => by
        obtain ⟨cs, hcs⟩ := row_type hr3 hb
        rintro rfl
        rw [HAB3.out] at hcs; simp at hcs
      have hr5 := hr3.away hA5 hrn
      have hB5 := hB3.trans (hA5.below (B := w.heap.size) hB3.size fun b hb => by subst hb; exact hz1)
      have hg5 : ∀ b, r'.g = some b → w.heap.size ≤ b := fun b hb => by
        rcases hg3 b hb with h' | h'
        · exact hg b h'
        · have : w.heap.size ≤ (wr.alloc (.cells #[.int .i64 x.th, .int .u8 (x.op : Int), .int .i64 x.obj, .int .i64 x.a, .int .i64 x.b] 54)).heap.size := by simp; omega
          exact Nat.le_trans this h'
      have hc5 : Hid (r'.c = (uvarint es.length ++ encEvs Ev.zero (es.take (j + 1)), 0)) := by
        show _ = _
        rw [hc3, hc.out, take_snoc HX.out, encEvs_snoc, ← List.append_assoc, hp.out]
      have hp5 : Hid (x = lastEv Ev.zero (es.take (j + 1))) := by
        show _ = _
        rw [take_snoc HX.out, lastEv_snoc]
      clear y0 y1 y2 y3 y4 z0 z1 z2 z3 z4 zf0 zf1 zf2 zf3 zf4 hne hc3 hA5 hr3 hB3
      go_roundw
      case rel => exact ⟨j + 1, r', x, by go_num, by omega, rfl, hr5, hc5, hp5, hs5, hg5, hB5⟩
      case measure => simp [intOf]; omega
    · obtain rfl : j = n := by omega
      have hd : decide ((j : Int) < (j : Int)) = false := by simp
      have hown := hr.own hg
      rw [hc.out, List.take_of_length_le (by rw [HL.out]; exact Nat.le_refl _)] at hown
      clear h hc hp hab
      go_wp2_with fail
      go_ret
      exact ⟨_, rfl, hown, hB⟩

set_option maxRecDepth 100000 in
set_option maxHeartbeats 1000000 in
theorem Frame_any (A : Option Addr) (n c : Nat) (es : List Ev) (w : World) (h : IsEv w A n c es) (h1 : 1 ≤ n) (hn : n ≤ 4096) (hok : ∀ x ∈ es, x.ok) :
    Calls Try.prog 31 #[.slice A n c] w fun e w' => ∃ v, e = .returned (.tuple #[v, .int .i64 0]) ∧ Own w' w.heap.size 5 v (frameOf es) ∧ Below w.heap.size w w' := by
  have hd1 : ((n : Int) == 0) = false := beq_eq_false_iff_ne.2 (by omega)
  have hd2 : decide ((4096 : Int) < (n : Int)) = false := decide_eq_false (by omega)
  have hbm := bodyOf_most (es := es) (by rw [h.len]; exact hn)
  obtain ⟨i0, hi, hz0, hz1, hz2⟩ := info_parts infoByte
  have HB := Lib.hid (body_any A n c es w h hn hok)
  clear h hok
  go_enter Try.func31, Try.ntmps31
  go_wp2_with fail
  refine HB.out.mono ?_
  rintro e w1 ⟨v, rfl, ho, hb1⟩
  obtain ⟨Ab, m, cb, rfl, hI⟩ := own_slice ho
  have hm := hI.len
  have hwr : IntKind.u64.wrap (m : Int) = (m : Int) := by rw [IntKind.wrap_u64]; omega
  have hul := Lib.uvarint_length64 (x := m) (by omega)
  have HM := Lib.hid hm
  clear ho HB
  go_wp2_with fail
  refine (uint_nil' m _ (by omega)).mono ?_
  rintro e w2 ⟨v2, rfl, ho2, hb2⟩
  have hI2 := hI.below hb2
  have hB2 := bstep0 hb1 hb2
  have hz2' := hb2.size
  have hz1' := hb1.size
  clear hI hb1
  go_wp2_with fail
  refine (seal_any Ab m cb (bodyOf es) _ hI2 (by omega)).mono ?_
  rintro e w3 ⟨v3, rfl, ho3, hb3⟩
  have hB3 := bstep0 hB2 hb3
  have ho2' := (ho2.below hb3).mono (base' := w.heap.size) hz1'
  obtain ⟨As, ms, cs, rfl, hIs⟩ := own_slice ho3
  have hms := hIs.len
  rw [List.length_append, sumBytes_length] at hms
  clear ho2 ho3 hb2 hb3 hB2 hI2
  go_wp2_with (at_builtin; refine wpList_putAny _ rfl _ _ 26 rfl 5 i0 Try.underlying26 hi hz0 hz1 hz2 w.heap.size _ _ rfl ho2' As ms cs _ rfl hIs (by omega) hB3.size ?_; rintro v4 w4 ho4 hb4)
  go_ret2
  refine ⟨v4, rfl, ?_, hB3.trans hb4⟩
  unfold frameOf sealed
  rw [HM.out]
  exact ho4
theorem Frame_none (A : Option Addr) (c : Nat) (w : World) :
    Calls Try.prog 31 #[.slice A 0 c] w fun e w' => e = .returned (.tuple #[.slice none 0 0, .int .i64 2]) ∧ w = w' := by
  go_enter Try.func31, Try.ntmps31
  go_wp2_with fail
  go_ret2
  exact ⟨rfl, rfl⟩
theorem Frame_long (A : Option Addr) (n c : Nat) (w : World) (hn : 4096 < n) :
    Calls Try.prog 31 #[.slice A n c] w fun e w' => e = .returned (.tuple #[.slice none 0 0, .int .i64 3]) ∧ w = w' := by
  have hd1 : ((n : Int) == 0) = false := beq_eq_false_iff_ne.2 (by omega)
  have hd2 : decide ((4096 : Int) < (n : Int)) = true := decide_eq_true (by omega)
  go_enter Try.func31, Try.ntmps31
  go_wp2_with fail
  go_ret2
  exact ⟨rfl, rfl⟩
end Go.Proofs.Ytiockkphciadeaa
